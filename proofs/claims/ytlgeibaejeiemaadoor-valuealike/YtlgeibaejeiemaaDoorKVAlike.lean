/-
  The walk of ValueAlike.
-/
import Derived.Test.YtlgeibaejeiemaaDoorVx
namespace Go.Proofs.YtlgeibaejeiemaaDoor
set_option linter.unusedVariables false
set_option linter.unusedSimpArgs false
open Go.RowKit
open Wd We Vt

set_option maxRecDepth 100000 in
set_option maxHeartbeats 16000000 in
theorem walk_ValueAlike (v0 : Value) (T0 : Vt.Tr) (v1 : Value) (T1 : Vt.Tr) (v2 : Value) (T2 : Vt.Tr) (w : World) (s0 : Vt.Vl w v0 T0) (m0 : Vt.Sm T0) (s1 : Vt.Vl w v1 T1) (m1 : Vt.Sm T1) (s2 : Vt.Vl w v2 T2) (m2 : Vt.Sm T2) (tab : It.Tab w) :
    Calls Tryd.prog 7 #[v0, v1, v2] w fun e w' => e = .returned (.bool true) ∧ Below w.heap.size w w' := by
  obtain ⟨X0, n0, c0, Y0, q0, d0, rfl, _⟩ := s0.open_
  obtain ⟨X1, n1, c1, Y1, q1, d1, rfl, _⟩ := s1.open_
  obtain ⟨X2, n2, c2, Y2, q2, d2, rfl, _⟩ := s2.open_
  have HV0 := Lib.hid s0
  have HM0 := Lib.hid m0
  have HV1 := Lib.hid s1
  have HM1 := Lib.hid m1
  have HV2 := Lib.hid s2
  have HM2 := Lib.hid m2
  have TB := Lib.hid (fun (w' : World) (h : Below w.heap.size w w') => tab.below h)
  obtain ⟨Q0, hQ0⟩ : ∃ Q, w.heap.size = Q := ⟨_, rfl⟩
  obtain ⟨W1, hW1⟩ : ∃ W, w.alloc (.cells #[.int .i64 T0.kind, .bool T0.isB, .string T0.text, .slice X0 n0 c0, .slice Y0 q0 d0] 25) = W := ⟨_, rfl⟩
  have z1 : W1.heap.size = Q0 + 1 := by rw [← hW1, World.size_alloc]; omega
  have b1 : Below w.heap.size w W1 := by rw [← hW1]; exact below_allocV w _
  have x0 : Bx W1 Q0 (.int .i64 T0.kind) (.bool T0.isB) (.string T0.text) (.slice X0 n0 c0) (.slice Y0 q0 d0) := by rw [← hW1, show Q0 = w.heap.size by omega]; exact heap_alloc_new w _
  have bb1 : Below w.heap.size w W1 := b1
  obtain ⟨Q1, hQ1⟩ : ∃ Q, Q0 + 1 = Q := ⟨_, rfl⟩
  obtain ⟨W2, hW2⟩ : ∃ W, W1.alloc (.cells #[.int .i64 T1.kind, .bool T1.isB, .string T1.text, .slice X1 n1 c1, .slice Y1 q1 d1] 25) = W := ⟨_, rfl⟩
  have z2 : W2.heap.size = Q1 + 1 := by rw [← hW2, World.size_alloc]; omega
  have b2 : Below W1.heap.size W1 W2 := by rw [← hW2]; exact below_allocV W1 _
  have x1 : Bx W2 Q1 (.int .i64 T1.kind) (.bool T1.isB) (.string T1.text) (.slice X1 n1 c1) (.slice Y1 q1 d1) := by rw [← hW2, show Q1 = W1.heap.size by omega]; exact heap_alloc_new W1 _
  have x0 := x0.below b2 (by omega)
  have bb2 : Below w.heap.size w W2 := extV bb1 b2
  obtain ⟨Q2, hQ2⟩ : ∃ Q, Q1 + 1 = Q := ⟨_, rfl⟩
  obtain ⟨W3, hW3⟩ : ∃ W, W2.alloc (.cells #[.int .i64 T2.kind, .bool T2.isB, .string T2.text, .slice X2 n2 c2, .slice Y2 q2 d2] 25) = W := ⟨_, rfl⟩
  have z3 : W3.heap.size = Q2 + 1 := by rw [← hW3, World.size_alloc]; omega
  have b3 : Below W2.heap.size W2 W3 := by rw [← hW3]; exact below_allocV W2 _
  have x2 : Bx W3 Q2 (.int .i64 T2.kind) (.bool T2.isB) (.string T2.text) (.slice X2 n2 c2) (.slice Y2 q2 d2) := by rw [← hW3, show Q2 = W2.heap.size by omega]; exact heap_alloc_new W2 _
  have x0 := x0.below b3 (by omega)
  have x1 := x1.below b3 (by omega)
  have bb3 : Below w.heap.size w W3 := extV bb2 b3
  obtain ⟨W4, hW4⟩ : ∃ W, W3.alloc (.cells #[.int .i64 T0.kind, .bool T0.isB, .string T0.text, .slice X0 n0 c0, .slice Y0 q0 d0, .int .i64 T1.kind, .bool T1.isB, .string T1.text, .slice X1 n1 c1, .slice Y1 q1 d1, .int .i64 T2.kind, .bool T2.isB, .string T2.text, .slice X2 n2 c2, .slice Y2 q2 d2] 25) = W := ⟨_, rfl⟩
  have bl : Below W3.heap.size W3 W4 := by rw [← hW4]; exact below_allocV W3 _
  have bbl : Below w.heap.size w W4 := extV bb3 bl
  have y0 := x0.below bl (by omega)
  have HX0 := Lib.hid y0
  have vv0 := Vl.up bbl _ s0
  have UV0 := Lib.hid vv0
  have y1 := x1.below bl (by omega)
  have HX1 := Lib.hid y1
  have vv1 := Vl.up bbl _ s1
  have UV1 := Lib.hid vv1
  have y2 := x2.below bl (by omega)
  have HX2 := Lib.hid y2
  have vv2 := Vl.up bbl _ s2
  have UV2 := Lib.hid vv2
  have VLL : VL W4 (some ⟨W3.heap.size, 0, none⟩) 3 3 [T0, T1, T2] := VL.three_at (by rw [← hW4]; exact heap_alloc_new W3 _) vv0 vv1 vv2
  have CT := Lib.hid (deepList_any _ _ _ _ W4 VLL)
  have a00 := x0.c0; have a01 := x0.c1; have a02 := x0.c2; have a03 := x0.c3; have a04 := x0.c4
  have a10 := x1.c0; have a11 := x1.c1; have a12 := x1.c2; have a13 := x1.c3; have a14 := x1.c4
  have a20 := x2.c0; have a21 := x2.c1; have a22 := x2.c2; have a23 := x2.c3; have a24 := x2.c4
  have BL := Lib.hid bbl
  have HW1 := Lib.hid hW1
  have HW2 := Lib.hid hW2
  have HW3 := Lib.hid hW3
  have HW4 := Lib.hid hW4
  have HQ0 := Lib.hid hQ0
  have HQ1 := Lib.hid hQ1
  have HQ2 := Lib.hid hQ2
  have HZ1 := Lib.hid z1
  have HZ2 := Lib.hid z2
  have HZ3 := Lib.hid z3
  clear tab s0 m0 hQ0 hW1 z1 b1 bb1 x0 y0 vv0 s1 m1 hQ1 hW2 z2 b2 bb2 x1 y1 vv1 s2 m2 hQ2 hW3 z3 b3 bb3 x2 y2 vv2 hW4 bl bbl VLL
  go_enter Tryd.func7, Tryd.ntmps7
  go_upto_region 1 with fail
  rw [HW1.out, HQ0.out]
  rw [HW2.out, HQ1.out]
  rw [HW3.out, HQ2.out]
  rw [HZ3.out] at CT
  obtain ⟨QL, hQL⟩ : ∃ Q, Q2 + 1 = Q := ⟨_, rfl⟩
  rw [hQL] at CT
  have HQL := Lib.hid hQL
  clear hQL
  go_wp2_with fail
  rw [HW4.out]
  rw [HZ3.out, HQL.out]
  refine CT.out.mono ?_
  rintro e wd ⟨rfl, hb⟩
  have BW := Lib.hid (extV BL.out hb)
  have u0 := HX0.out.below hb HX0.out.lt
  have u1 := HX1.out.below hb HX1.out.lt
  have u2 := HX2.out.below hb HX2.out.lt
  have HU0 := Lib.hid u0
  have HU1 := Lib.hid u1
  have HU2 := Lib.hid u2
  clear hb a00 a01 a02 a03 a04 a10 a11 a12 a13 a14 a20 a21 a22 a23 a24
  have a00 := u0.c0; have a01 := u0.c1; have a02 := u0.c2; have a03 := u0.c3; have a04 := u0.c4
  have a10 := u1.c0; have a11 := u1.c1; have a12 := u1.c2; have a13 := u1.c3; have a14 := u1.c4
  have a20 := u2.c0; have a21 := u2.c1; have a22 := u2.c2; have a23 := u2.c3; have a24 := u2.c4
  clear u0 u1 u2
  cases hdp : dpL [T0, T1, T2] 991 with
  | true =>
    clear hdp
    go_wp2_with fail
    refine (awake_any _ (TB.out _ BW.out)).mono ?_
    rintro e wz ⟨rfl, hbz⟩
    have BZ := Lib.hid (extV BW.out hbz)
    clear hbz
    go_wp2_with fail
    go_ret
    exact ⟨rfl, BZ.out⟩
  | false =>
    have HD0 := Lib.hid (dp_no hdp (show T0 ∈ [T0, T1, T2] by simp))
    have HD1 := Lib.hid (dp_no hdp (show T1 ∈ [T0, T1, T2] by simp))
    have HD2 := Lib.hid (dp_no hdp (show T2 ∈ [T0, T1, T2] by simp))
    clear hdp
    have VV0 := Lib.hid (Vl.up BW.out _ HV0.out)
    have VV1 := Lib.hid (Vl.up BW.out _ HV1.out)
    have VV2 := Lib.hid (Vl.up BW.out _ HV2.out)
    rcases alk_trip T0 T1 T2 with ⟨hab, hbc, hac⟩ | ⟨hab, hbc, hac⟩ | ⟨hab, hbc, hac⟩ | ⟨hab, hbc⟩
    · go_upto_region 3 with fail
      have HSS : Bx wd.drew Q0 (.int .i64 T0.kind) (.bool T0.isB) (.string T0.text) (.slice X0 n0 c0) (.slice Y0 q0 d0) ∧ Bx wd.drew Q1 (.int .i64 T1.kind) (.bool T1.isB) (.string T1.text) (.slice X1 n1 c1) (.slice Y1 q1 d1) ∧ Bx wd.drew Q2 (.int .i64 T2.kind) (.bool T2.isB) (.string T2.text) (.slice X2 n2 c2) (.slice Y2 q2 d2) := ⟨Bx.same HU0.out rfl, Bx.same HU1.out rfl, Bx.same HU2.out rfl⟩
      refine region_calm (fun w' => Bx w' Q0 (.int .i64 T0.kind) (.bool T0.isB) (.string T0.text) (.slice X0 n0 c0) (.slice Y0 q0 d0) ∧ Bx w' Q1 (.int .i64 T1.kind) (.bool T1.isB) (.string T1.text) (.slice X1 n1 c1) (.slice Y1 q1 d1) ∧ Bx w' Q2 (.int .i64 T2.kind) (.bool T2.isB) (.string T2.text) (.slice X2 n2 c2) (.slice Y2 q2 d2)) [0, 1, 3, 4, 6, 7] (by kernel_rfl) ?_
      have rk0 : Below wd.heap.size wd wd.drew := ⟨rfl, rfl, rfl, Nat.le_refl _, fun _ _ => rfl⟩
      refine any_takeD 0 16 (.agg #[.int .i64 T0.kind, .bool T0.isB, .string T0.text, .slice X0 n0 c0, .slice Y0 q0 d0]) rfl rfl (by kernel_rfl) (by kernel_rfl) (by kernel_rfl) (by kernel_rfl) (fun _ _ _ h => h) (by rfl) ?_ HSS ?_
      · intro w' hS
        obtain ⟨za, zb, zc⟩ := hS
        have za_0 := za.c0; have za_1 := za.c1; have za_2 := za.c2; have za_3 := za.c3; have za_4 := za.c4
        have zb_0 := zb.c0; have zb_1 := zb.c1; have zb_2 := zb.c2; have zb_3 := zb.c3; have zb_4 := zb.c4
        have zc_0 := zc.c0; have zc_1 := zc.c1; have zc_2 := zc.c2; have zc_3 := zc.c3; have zc_4 := zc.c4
        go_simp
      simp only [Act.put, List.setIfInBounds_toArray, List.set_cons_zero, List.set_cons_succ]
      refine any_takeD 1 17 (.agg #[.int .i64 T1.kind, .bool T1.isB, .string T1.text, .slice X1 n1 c1, .slice Y1 q1 d1]) rfl rfl (by kernel_rfl) (by kernel_rfl) (by kernel_rfl) (by kernel_rfl) (fun _ _ _ h => h) (by rfl) ?_ HSS ?_
      · intro w' hS
        obtain ⟨za, zb, zc⟩ := hS
        have za_0 := za.c0; have za_1 := za.c1; have za_2 := za.c2; have za_3 := za.c3; have za_4 := za.c4
        have zb_0 := zb.c0; have zb_1 := zb.c1; have zb_2 := zb.c2; have zb_3 := zb.c3; have zb_4 := zb.c4
        have zc_0 := zc.c0; have zc_1 := zc.c1; have zc_2 := zc.c2; have zc_3 := zc.c3; have zc_4 := zc.c4
        go_simp
      simp only [Act.put, List.setIfInBounds_toArray, List.set_cons_zero, List.set_cons_succ]
      refine any_takeD 3 19 (.agg #[.int .i64 T1.kind, .bool T1.isB, .string T1.text, .slice X1 n1 c1, .slice Y1 q1 d1]) rfl rfl (by kernel_rfl) (by kernel_rfl) (by kernel_rfl) (by kernel_rfl) (fun _ _ _ h => h) (by rfl) ?_ HSS ?_
      · intro w' hS
        obtain ⟨za, zb, zc⟩ := hS
        have za_0 := za.c0; have za_1 := za.c1; have za_2 := za.c2; have za_3 := za.c3; have za_4 := za.c4
        have zb_0 := zb.c0; have zb_1 := zb.c1; have zb_2 := zb.c2; have zb_3 := zb.c3; have zb_4 := zb.c4
        have zc_0 := zc.c0; have zc_1 := zc.c1; have zc_2 := zc.c2; have zc_3 := zc.c3; have zc_4 := zc.c4
        go_simp
      simp only [Act.put, List.setIfInBounds_toArray, List.set_cons_zero, List.set_cons_succ]
      refine any_takeD 4 20 (.agg #[.int .i64 T2.kind, .bool T2.isB, .string T2.text, .slice X2 n2 c2, .slice Y2 q2 d2]) rfl rfl (by kernel_rfl) (by kernel_rfl) (by kernel_rfl) (by kernel_rfl) (fun _ _ _ h => h) (by rfl) ?_ HSS ?_
      · intro w' hS
        obtain ⟨za, zb, zc⟩ := hS
        have za_0 := za.c0; have za_1 := za.c1; have za_2 := za.c2; have za_3 := za.c3; have za_4 := za.c4
        have zb_0 := zb.c0; have zb_1 := zb.c1; have zb_2 := zb.c2; have zb_3 := zb.c3; have zb_4 := zb.c4
        have zc_0 := zc.c0; have zc_1 := zc.c1; have zc_2 := zc.c2; have zc_3 := zc.c3; have zc_4 := zc.c4
        go_simp
      simp only [Act.put, List.setIfInBounds_toArray, List.set_cons_zero, List.set_cons_succ]
      refine any_takeD 6 22 (.agg #[.int .i64 T0.kind, .bool T0.isB, .string T0.text, .slice X0 n0 c0, .slice Y0 q0 d0]) rfl rfl (by kernel_rfl) (by kernel_rfl) (by kernel_rfl) (by kernel_rfl) (fun _ _ _ h => h) (by rfl) ?_ HSS ?_
      · intro w' hS
        obtain ⟨za, zb, zc⟩ := hS
        have za_0 := za.c0; have za_1 := za.c1; have za_2 := za.c2; have za_3 := za.c3; have za_4 := za.c4
        have zb_0 := zb.c0; have zb_1 := zb.c1; have zb_2 := zb.c2; have zb_3 := zb.c3; have zb_4 := zb.c4
        have zc_0 := zc.c0; have zc_1 := zc.c1; have zc_2 := zc.c2; have zc_3 := zc.c3; have zc_4 := zc.c4
        go_simp
      simp only [Act.put, List.setIfInBounds_toArray, List.set_cons_zero, List.set_cons_succ]
      refine any_takeD 7 23 (.agg #[.int .i64 T2.kind, .bool T2.isB, .string T2.text, .slice X2 n2 c2, .slice Y2 q2 d2]) rfl rfl (by kernel_rfl) (by kernel_rfl) (by kernel_rfl) (by kernel_rfl) (fun _ _ _ h => h) (by rfl) ?_ HSS ?_
      · intro w' hS
        obtain ⟨za, zb, zc⟩ := hS
        have za_0 := za.c0; have za_1 := za.c1; have za_2 := za.c2; have za_3 := za.c3; have za_4 := za.c4
        have zb_0 := zb.c0; have zb_1 := zb.c1; have zb_2 := zb.c2; have zb_3 := zb.c3; have zb_4 := zb.c4
        have zc_0 := zc.c0; have zc_1 := zc.c1; have zc_2 := zc.c2; have zc_3 := zc.c3; have zc_4 := zc.c4
        go_simp
      simp only [Act.put, List.setIfInBounds_toArray, List.set_cons_zero, List.set_cons_succ]
      refine any_callV 2 18 (by kernel_rfl) rfl rfl (by rfl) (fn := 22) (args := #[.agg #[.int .i64 T0.kind, .bool T0.isB, .string T0.text, .slice X0 n0 c0, .slice Y0 q0 d0], .agg #[.int .i64 T1.kind, .bool T1.isB, .string T1.text, .slice X1 n1 c1, .slice Y1 q1 d1]]) ?_ (equal_any T0 T1 _ _ wd.drew (Vl.up rk0 _ VV0.out) (Vl.up rk0 _ VV1.out)) ?_
      · go_simp
      rintro e r1 ⟨rfl, hr1⟩
      have rk1 := extV rk0 hr1
      rw [hab]
      have HSS : Bx r1 Q0 (.int .i64 T0.kind) (.bool T0.isB) (.string T0.text) (.slice X0 n0 c0) (.slice Y0 q0 d0) ∧ Bx r1 Q1 (.int .i64 T1.kind) (.bool T1.isB) (.string T1.text) (.slice X1 n1 c1) (.slice Y1 q1 d1) ∧ Bx r1 Q2 (.int .i64 T2.kind) (.bool T2.isB) (.string T2.text) (.slice X2 n2 c2) (.slice Y2 q2 d2) := ⟨HSS.1.below hr1 HSS.1.lt, HSS.2.1.below hr1 HSS.2.1.lt, HSS.2.2.below hr1 HSS.2.2.lt⟩
      refine ⟨_, rfl, .inr HSS, ?_⟩
      simp only [Act.put, List.setIfInBounds_toArray, List.set_cons_zero, List.set_cons_succ]
      refine any_callV 5 21 (by kernel_rfl) rfl rfl (by rfl) (fn := 22) (args := #[.agg #[.int .i64 T1.kind, .bool T1.isB, .string T1.text, .slice X1 n1 c1, .slice Y1 q1 d1], .agg #[.int .i64 T2.kind, .bool T2.isB, .string T2.text, .slice X2 n2 c2, .slice Y2 q2 d2]]) ?_ (equal_any T1 T2 _ _ r1 (Vl.up rk1 _ VV1.out) (Vl.up rk1 _ VV2.out)) ?_
      · go_simp
      rintro e r2 ⟨rfl, hr2⟩
      have rk2 := extV rk1 hr2
      rw [hbc]
      have HSS : Bx r2 Q0 (.int .i64 T0.kind) (.bool T0.isB) (.string T0.text) (.slice X0 n0 c0) (.slice Y0 q0 d0) ∧ Bx r2 Q1 (.int .i64 T1.kind) (.bool T1.isB) (.string T1.text) (.slice X1 n1 c1) (.slice Y1 q1 d1) ∧ Bx r2 Q2 (.int .i64 T2.kind) (.bool T2.isB) (.string T2.text) (.slice X2 n2 c2) (.slice Y2 q2 d2) := ⟨HSS.1.below hr2 HSS.1.lt, HSS.2.1.below hr2 HSS.2.1.lt, HSS.2.2.below hr2 HSS.2.2.lt⟩
      refine ⟨_, rfl, .inr HSS, ?_⟩
      simp only [Act.put, List.setIfInBounds_toArray, List.set_cons_zero, List.set_cons_succ]
      refine any_callV 8 24 (by kernel_rfl) rfl rfl (by rfl) (fn := 22) (args := #[.agg #[.int .i64 T0.kind, .bool T0.isB, .string T0.text, .slice X0 n0 c0, .slice Y0 q0 d0], .agg #[.int .i64 T2.kind, .bool T2.isB, .string T2.text, .slice X2 n2 c2, .slice Y2 q2 d2]]) ?_ (equal_any T0 T2 _ _ r2 (Vl.up rk2 _ VV0.out) (Vl.up rk2 _ VV2.out)) ?_
      · go_simp
      rintro e r3 ⟨rfl, hr3⟩
      have rk3 := extV rk2 hr3
      rw [hac]
      have HSS : Bx r3 Q0 (.int .i64 T0.kind) (.bool T0.isB) (.string T0.text) (.slice X0 n0 c0) (.slice Y0 q0 d0) ∧ Bx r3 Q1 (.int .i64 T1.kind) (.bool T1.isB) (.string T1.text) (.slice X1 n1 c1) (.slice Y1 q1 d1) ∧ Bx r3 Q2 (.int .i64 T2.kind) (.bool T2.isB) (.string T2.text) (.slice X2 n2 c2) (.slice Y2 q2 d2) := ⟨HSS.1.below hr3 HSS.1.lt, HSS.2.1.below hr3 HSS.2.1.lt, HSS.2.2.below hr3 HSS.2.2.lt⟩
      refine ⟨_, rfl, .inr HSS, ?_⟩
      simp only [Act.put, List.setIfInBounds_toArray, List.set_cons_zero, List.set_cons_succ]
      refine any_runD 9 7 (.bool true) r3 (by kernel_rfl) rfl rfl (by rfl) ?_ (.inr HSS) ?_
      · obtain ⟨za, zb, zc⟩ := HSS
        have za_0 := za.c0; have za_1 := za.c1; have za_2 := za.c2; have za_3 := za.c3; have za_4 := za.c4
        have zb_0 := zb.c0; have zb_1 := zb.c1; have zb_2 := zb.c2; have zb_3 := zb.c3; have zb_4 := zb.c4
        have zc_0 := zc.c0; have zc_1 := zc.c1; have zc_2 := zc.c2; have zc_3 := zc.c3; have zc_4 := zc.c4
        go_simp
      simp only [Act.put, List.setIfInBounds_toArray, List.set_cons_zero, List.set_cons_succ]
      refine any_runD 10 8 (.bool true) r3 (by kernel_rfl) rfl rfl (by rfl) ?_ (.inr HSS) ?_
      · obtain ⟨za, zb, zc⟩ := HSS
        have za_0 := za.c0; have za_1 := za.c1; have za_2 := za.c2; have za_3 := za.c3; have za_4 := za.c4
        have zb_0 := zb.c0; have zb_1 := zb.c1; have zb_2 := zb.c2; have zb_3 := zb.c3; have zb_4 := zb.c4
        have zc_0 := zc.c0; have zc_1 := zc.c1; have zc_2 := zc.c2; have zc_3 := zc.c3; have zc_4 := zc.c4
        go_simp
      simp only [Act.put, List.setIfInBounds_toArray, List.set_cons_zero, List.set_cons_succ]
      refine any_runD 11 9 (.bool true) r3 (by kernel_rfl) rfl rfl (by rfl) ?_ (.inr HSS) ?_
      · obtain ⟨za, zb, zc⟩ := HSS
        have za_0 := za.c0; have za_1 := za.c1; have za_2 := za.c2; have za_3 := za.c3; have za_4 := za.c4
        have zb_0 := zb.c0; have zb_1 := zb.c1; have zb_2 := zb.c2; have zb_3 := zb.c3; have zb_4 := zb.c4
        have zc_0 := zc.c0; have zc_1 := zc.c1; have zc_2 := zc.c2; have zc_3 := zc.c3; have zc_4 := zc.c4
        go_simp
      simp only [Act.put, List.setIfInBounds_toArray, List.set_cons_zero, List.set_cons_succ]
      refine any_done (by kernel_rfl) ?_ _
      refine calm_normal ?_
      obtain ⟨v0, v1, v2⟩ := HSS
      have BE := Lib.hid (extV BW.out rk3)
      have e00 := v0.c0; have e01 := v0.c1; have e02 := v0.c2; have e03 := v0.c3; have e04 := v0.c4
      have e10 := v1.c0; have e11 := v1.c1; have e12 := v1.c2; have e13 := v1.c3; have e14 := v1.c4
      have K0 := Lib.hid v0
      have K1 := Lib.hid v1
      have KV0 := Lib.hid (Vl.up rk3 _ VV0.out)
      have KV1 := Lib.hid (Vl.up rk3 _ VV1.out)
      clear v0 v1 v2
      go_wp2_with fail
      refine (equal_any T0 T0 _ _ r3 KV0.out KV0.out).mono ?_
      rintro e w5 ⟨rfl, hb5⟩
      rw [alk_self]
      have BE5 := Lib.hid (extV BE.out hb5)
      have v0 := K0.out.below hb5 K0.out.lt
      have v1 := K1.out.below hb5 K1.out.lt
      have KW0 := Lib.hid (Vl.up hb5 _ KV0.out)
      have KW1 := Lib.hid (Vl.up hb5 _ KV1.out)
      clear e00 e01 e02 e03 e04 e10 e11 e12 e13 e14
      have e00 := v0.c0; have e01 := v0.c1; have e02 := v0.c2; have e03 := v0.c3; have e04 := v0.c4
      have e10 := v1.c0; have e11 := v1.c1; have e12 := v1.c2; have e13 := v1.c3; have e14 := v1.c4
      clear hb5 v0 v1
      go_wp2_with fail
      refine (equal_any T1 T0 _ _ w5 KW1.out KW0.out).mono ?_
      rintro e w6 ⟨rfl, hb6⟩
      rw [alk_symm T1 T0, hab]
      have BE6 := Lib.hid (extV BE5.out hb6)
      clear hb6
      clear e00 e01 e02 e03 e04 e10 e11 e12 e13 e14
      go_wp2_with fail
      refine (awake_any _ (TB.out _ BE6.out)).mono ?_
      rintro e wz ⟨rfl, hbz⟩
      have BZ := Lib.hid (extV BE6.out hbz)
      clear hbz
      go_wp2_with fail
      go_ret
      exact ⟨rfl, BZ.out⟩
    · go_upto_region 3 with fail
      have HSS : Bx wd.drew Q0 (.int .i64 T0.kind) (.bool T0.isB) (.string T0.text) (.slice X0 n0 c0) (.slice Y0 q0 d0) ∧ Bx wd.drew Q1 (.int .i64 T1.kind) (.bool T1.isB) (.string T1.text) (.slice X1 n1 c1) (.slice Y1 q1 d1) ∧ Bx wd.drew Q2 (.int .i64 T2.kind) (.bool T2.isB) (.string T2.text) (.slice X2 n2 c2) (.slice Y2 q2 d2) := ⟨Bx.same HU0.out rfl, Bx.same HU1.out rfl, Bx.same HU2.out rfl⟩
      refine region_calm (fun w' => Bx w' Q0 (.int .i64 T0.kind) (.bool T0.isB) (.string T0.text) (.slice X0 n0 c0) (.slice Y0 q0 d0) ∧ Bx w' Q1 (.int .i64 T1.kind) (.bool T1.isB) (.string T1.text) (.slice X1 n1 c1) (.slice Y1 q1 d1) ∧ Bx w' Q2 (.int .i64 T2.kind) (.bool T2.isB) (.string T2.text) (.slice X2 n2 c2) (.slice Y2 q2 d2)) [0, 1, 3, 4, 6, 7] (by kernel_rfl) ?_
      have rk0 : Below wd.heap.size wd wd.drew := ⟨rfl, rfl, rfl, Nat.le_refl _, fun _ _ => rfl⟩
      refine any_takeD 0 16 (.agg #[.int .i64 T0.kind, .bool T0.isB, .string T0.text, .slice X0 n0 c0, .slice Y0 q0 d0]) rfl rfl (by kernel_rfl) (by kernel_rfl) (by kernel_rfl) (by kernel_rfl) (fun _ _ _ h => h) (by rfl) ?_ HSS ?_
      · intro w' hS
        obtain ⟨za, zb, zc⟩ := hS
        have za_0 := za.c0; have za_1 := za.c1; have za_2 := za.c2; have za_3 := za.c3; have za_4 := za.c4
        have zb_0 := zb.c0; have zb_1 := zb.c1; have zb_2 := zb.c2; have zb_3 := zb.c3; have zb_4 := zb.c4
        have zc_0 := zc.c0; have zc_1 := zc.c1; have zc_2 := zc.c2; have zc_3 := zc.c3; have zc_4 := zc.c4
        go_simp
      simp only [Act.put, List.setIfInBounds_toArray, List.set_cons_zero, List.set_cons_succ]
      refine any_takeD 1 17 (.agg #[.int .i64 T1.kind, .bool T1.isB, .string T1.text, .slice X1 n1 c1, .slice Y1 q1 d1]) rfl rfl (by kernel_rfl) (by kernel_rfl) (by kernel_rfl) (by kernel_rfl) (fun _ _ _ h => h) (by rfl) ?_ HSS ?_
      · intro w' hS
        obtain ⟨za, zb, zc⟩ := hS
        have za_0 := za.c0; have za_1 := za.c1; have za_2 := za.c2; have za_3 := za.c3; have za_4 := za.c4
        have zb_0 := zb.c0; have zb_1 := zb.c1; have zb_2 := zb.c2; have zb_3 := zb.c3; have zb_4 := zb.c4
        have zc_0 := zc.c0; have zc_1 := zc.c1; have zc_2 := zc.c2; have zc_3 := zc.c3; have zc_4 := zc.c4
        go_simp
      simp only [Act.put, List.setIfInBounds_toArray, List.set_cons_zero, List.set_cons_succ]
      refine any_takeD 3 19 (.agg #[.int .i64 T1.kind, .bool T1.isB, .string T1.text, .slice X1 n1 c1, .slice Y1 q1 d1]) rfl rfl (by kernel_rfl) (by kernel_rfl) (by kernel_rfl) (by kernel_rfl) (fun _ _ _ h => h) (by rfl) ?_ HSS ?_
      · intro w' hS
        obtain ⟨za, zb, zc⟩ := hS
        have za_0 := za.c0; have za_1 := za.c1; have za_2 := za.c2; have za_3 := za.c3; have za_4 := za.c4
        have zb_0 := zb.c0; have zb_1 := zb.c1; have zb_2 := zb.c2; have zb_3 := zb.c3; have zb_4 := zb.c4
        have zc_0 := zc.c0; have zc_1 := zc.c1; have zc_2 := zc.c2; have zc_3 := zc.c3; have zc_4 := zc.c4
        go_simp
      simp only [Act.put, List.setIfInBounds_toArray, List.set_cons_zero, List.set_cons_succ]
      refine any_takeD 4 20 (.agg #[.int .i64 T2.kind, .bool T2.isB, .string T2.text, .slice X2 n2 c2, .slice Y2 q2 d2]) rfl rfl (by kernel_rfl) (by kernel_rfl) (by kernel_rfl) (by kernel_rfl) (fun _ _ _ h => h) (by rfl) ?_ HSS ?_
      · intro w' hS
        obtain ⟨za, zb, zc⟩ := hS
        have za_0 := za.c0; have za_1 := za.c1; have za_2 := za.c2; have za_3 := za.c3; have za_4 := za.c4
        have zb_0 := zb.c0; have zb_1 := zb.c1; have zb_2 := zb.c2; have zb_3 := zb.c3; have zb_4 := zb.c4
        have zc_0 := zc.c0; have zc_1 := zc.c1; have zc_2 := zc.c2; have zc_3 := zc.c3; have zc_4 := zc.c4
        go_simp
      simp only [Act.put, List.setIfInBounds_toArray, List.set_cons_zero, List.set_cons_succ]
      refine any_takeD 6 22 (.agg #[.int .i64 T0.kind, .bool T0.isB, .string T0.text, .slice X0 n0 c0, .slice Y0 q0 d0]) rfl rfl (by kernel_rfl) (by kernel_rfl) (by kernel_rfl) (by kernel_rfl) (fun _ _ _ h => h) (by rfl) ?_ HSS ?_
      · intro w' hS
        obtain ⟨za, zb, zc⟩ := hS
        have za_0 := za.c0; have za_1 := za.c1; have za_2 := za.c2; have za_3 := za.c3; have za_4 := za.c4
        have zb_0 := zb.c0; have zb_1 := zb.c1; have zb_2 := zb.c2; have zb_3 := zb.c3; have zb_4 := zb.c4
        have zc_0 := zc.c0; have zc_1 := zc.c1; have zc_2 := zc.c2; have zc_3 := zc.c3; have zc_4 := zc.c4
        go_simp
      simp only [Act.put, List.setIfInBounds_toArray, List.set_cons_zero, List.set_cons_succ]
      refine any_takeD 7 23 (.agg #[.int .i64 T2.kind, .bool T2.isB, .string T2.text, .slice X2 n2 c2, .slice Y2 q2 d2]) rfl rfl (by kernel_rfl) (by kernel_rfl) (by kernel_rfl) (by kernel_rfl) (fun _ _ _ h => h) (by rfl) ?_ HSS ?_
      · intro w' hS
        obtain ⟨za, zb, zc⟩ := hS
        have za_0 := za.c0; have za_1 := za.c1; have za_2 := za.c2; have za_3 := za.c3; have za_4 := za.c4
        have zb_0 := zb.c0; have zb_1 := zb.c1; have zb_2 := zb.c2; have zb_3 := zb.c3; have zb_4 := zb.c4
        have zc_0 := zc.c0; have zc_1 := zc.c1; have zc_2 := zc.c2; have zc_3 := zc.c3; have zc_4 := zc.c4
        go_simp
      simp only [Act.put, List.setIfInBounds_toArray, List.set_cons_zero, List.set_cons_succ]
      refine any_callV 2 18 (by kernel_rfl) rfl rfl (by rfl) (fn := 22) (args := #[.agg #[.int .i64 T0.kind, .bool T0.isB, .string T0.text, .slice X0 n0 c0, .slice Y0 q0 d0], .agg #[.int .i64 T1.kind, .bool T1.isB, .string T1.text, .slice X1 n1 c1, .slice Y1 q1 d1]]) ?_ (equal_any T0 T1 _ _ wd.drew (Vl.up rk0 _ VV0.out) (Vl.up rk0 _ VV1.out)) ?_
      · go_simp
      rintro e r1 ⟨rfl, hr1⟩
      have rk1 := extV rk0 hr1
      rw [hab]
      have HSS : Bx r1 Q0 (.int .i64 T0.kind) (.bool T0.isB) (.string T0.text) (.slice X0 n0 c0) (.slice Y0 q0 d0) ∧ Bx r1 Q1 (.int .i64 T1.kind) (.bool T1.isB) (.string T1.text) (.slice X1 n1 c1) (.slice Y1 q1 d1) ∧ Bx r1 Q2 (.int .i64 T2.kind) (.bool T2.isB) (.string T2.text) (.slice X2 n2 c2) (.slice Y2 q2 d2) := ⟨HSS.1.below hr1 HSS.1.lt, HSS.2.1.below hr1 HSS.2.1.lt, HSS.2.2.below hr1 HSS.2.2.lt⟩
      refine ⟨_, rfl, .inr HSS, ?_⟩
      simp only [Act.put, List.setIfInBounds_toArray, List.set_cons_zero, List.set_cons_succ]
      refine any_callV 5 21 (by kernel_rfl) rfl rfl (by rfl) (fn := 22) (args := #[.agg #[.int .i64 T1.kind, .bool T1.isB, .string T1.text, .slice X1 n1 c1, .slice Y1 q1 d1], .agg #[.int .i64 T2.kind, .bool T2.isB, .string T2.text, .slice X2 n2 c2, .slice Y2 q2 d2]]) ?_ (equal_any T1 T2 _ _ r1 (Vl.up rk1 _ VV1.out) (Vl.up rk1 _ VV2.out)) ?_
      · go_simp
      rintro e r2 ⟨rfl, hr2⟩
      have rk2 := extV rk1 hr2
      rw [hbc]
      have HSS : Bx r2 Q0 (.int .i64 T0.kind) (.bool T0.isB) (.string T0.text) (.slice X0 n0 c0) (.slice Y0 q0 d0) ∧ Bx r2 Q1 (.int .i64 T1.kind) (.bool T1.isB) (.string T1.text) (.slice X1 n1 c1) (.slice Y1 q1 d1) ∧ Bx r2 Q2 (.int .i64 T2.kind) (.bool T2.isB) (.string T2.text) (.slice X2 n2 c2) (.slice Y2 q2 d2) := ⟨HSS.1.below hr2 HSS.1.lt, HSS.2.1.below hr2 HSS.2.1.lt, HSS.2.2.below hr2 HSS.2.2.lt⟩
      refine ⟨_, rfl, .inr HSS, ?_⟩
      simp only [Act.put, List.setIfInBounds_toArray, List.set_cons_zero, List.set_cons_succ]
      refine any_callV 8 24 (by kernel_rfl) rfl rfl (by rfl) (fn := 22) (args := #[.agg #[.int .i64 T0.kind, .bool T0.isB, .string T0.text, .slice X0 n0 c0, .slice Y0 q0 d0], .agg #[.int .i64 T2.kind, .bool T2.isB, .string T2.text, .slice X2 n2 c2, .slice Y2 q2 d2]]) ?_ (equal_any T0 T2 _ _ r2 (Vl.up rk2 _ VV0.out) (Vl.up rk2 _ VV2.out)) ?_
      · go_simp
      rintro e r3 ⟨rfl, hr3⟩
      have rk3 := extV rk2 hr3
      rw [hac]
      have HSS : Bx r3 Q0 (.int .i64 T0.kind) (.bool T0.isB) (.string T0.text) (.slice X0 n0 c0) (.slice Y0 q0 d0) ∧ Bx r3 Q1 (.int .i64 T1.kind) (.bool T1.isB) (.string T1.text) (.slice X1 n1 c1) (.slice Y1 q1 d1) ∧ Bx r3 Q2 (.int .i64 T2.kind) (.bool T2.isB) (.string T2.text) (.slice X2 n2 c2) (.slice Y2 q2 d2) := ⟨HSS.1.below hr3 HSS.1.lt, HSS.2.1.below hr3 HSS.2.1.lt, HSS.2.2.below hr3 HSS.2.2.lt⟩
      refine ⟨_, rfl, .inr HSS, ?_⟩
      simp only [Act.put, List.setIfInBounds_toArray, List.set_cons_zero, List.set_cons_succ]
      refine any_runD 9 7 (.bool true) r3 (by kernel_rfl) rfl rfl (by rfl) ?_ (.inr HSS) ?_
      · obtain ⟨za, zb, zc⟩ := HSS
        have za_0 := za.c0; have za_1 := za.c1; have za_2 := za.c2; have za_3 := za.c3; have za_4 := za.c4
        have zb_0 := zb.c0; have zb_1 := zb.c1; have zb_2 := zb.c2; have zb_3 := zb.c3; have zb_4 := zb.c4
        have zc_0 := zc.c0; have zc_1 := zc.c1; have zc_2 := zc.c2; have zc_3 := zc.c3; have zc_4 := zc.c4
        go_simp
      simp only [Act.put, List.setIfInBounds_toArray, List.set_cons_zero, List.set_cons_succ]
      refine any_runD 10 8 (.bool false) r3 (by kernel_rfl) rfl rfl (by rfl) ?_ (.inr HSS) ?_
      · obtain ⟨za, zb, zc⟩ := HSS
        have za_0 := za.c0; have za_1 := za.c1; have za_2 := za.c2; have za_3 := za.c3; have za_4 := za.c4
        have zb_0 := zb.c0; have zb_1 := zb.c1; have zb_2 := zb.c2; have zb_3 := zb.c3; have zb_4 := zb.c4
        have zc_0 := zc.c0; have zc_1 := zc.c1; have zc_2 := zc.c2; have zc_3 := zc.c3; have zc_4 := zc.c4
        go_simp
      simp only [Act.put, List.setIfInBounds_toArray, List.set_cons_zero, List.set_cons_succ]
      refine any_runD 11 9 (.bool false) r3 (by kernel_rfl) rfl rfl (by rfl) ?_ (.inr HSS) ?_
      · obtain ⟨za, zb, zc⟩ := HSS
        have za_0 := za.c0; have za_1 := za.c1; have za_2 := za.c2; have za_3 := za.c3; have za_4 := za.c4
        have zb_0 := zb.c0; have zb_1 := zb.c1; have zb_2 := zb.c2; have zb_3 := zb.c3; have zb_4 := zb.c4
        have zc_0 := zc.c0; have zc_1 := zc.c1; have zc_2 := zc.c2; have zc_3 := zc.c3; have zc_4 := zc.c4
        go_simp
      simp only [Act.put, List.setIfInBounds_toArray, List.set_cons_zero, List.set_cons_succ]
      refine any_done (by kernel_rfl) ?_ _
      refine calm_normal ?_
      obtain ⟨v0, v1, v2⟩ := HSS
      have BE := Lib.hid (extV BW.out rk3)
      have e00 := v0.c0; have e01 := v0.c1; have e02 := v0.c2; have e03 := v0.c3; have e04 := v0.c4
      have e10 := v1.c0; have e11 := v1.c1; have e12 := v1.c2; have e13 := v1.c3; have e14 := v1.c4
      have K0 := Lib.hid v0
      have K1 := Lib.hid v1
      have KV0 := Lib.hid (Vl.up rk3 _ VV0.out)
      have KV1 := Lib.hid (Vl.up rk3 _ VV1.out)
      clear v0 v1 v2
      go_wp2_with fail
      refine (equal_any T0 T0 _ _ r3 KV0.out KV0.out).mono ?_
      rintro e w5 ⟨rfl, hb5⟩
      rw [alk_self]
      have BE5 := Lib.hid (extV BE.out hb5)
      have v0 := K0.out.below hb5 K0.out.lt
      have v1 := K1.out.below hb5 K1.out.lt
      have KW0 := Lib.hid (Vl.up hb5 _ KV0.out)
      have KW1 := Lib.hid (Vl.up hb5 _ KV1.out)
      clear e00 e01 e02 e03 e04 e10 e11 e12 e13 e14
      have e00 := v0.c0; have e01 := v0.c1; have e02 := v0.c2; have e03 := v0.c3; have e04 := v0.c4
      have e10 := v1.c0; have e11 := v1.c1; have e12 := v1.c2; have e13 := v1.c3; have e14 := v1.c4
      clear hb5 v0 v1
      go_wp2_with fail
      refine (equal_any T1 T0 _ _ w5 KW1.out KW0.out).mono ?_
      rintro e w6 ⟨rfl, hb6⟩
      rw [alk_symm T1 T0, hab]
      have BE6 := Lib.hid (extV BE5.out hb6)
      clear hb6
      clear e00 e01 e02 e03 e04 e10 e11 e12 e13 e14
      go_wp2_with fail
      refine (awake_any _ (TB.out _ BE6.out)).mono ?_
      rintro e wz ⟨rfl, hbz⟩
      have BZ := Lib.hid (extV BE6.out hbz)
      clear hbz
      go_wp2_with fail
      go_ret
      exact ⟨rfl, BZ.out⟩
    · go_upto_region 3 with fail
      have HSS : Bx wd.drew Q0 (.int .i64 T0.kind) (.bool T0.isB) (.string T0.text) (.slice X0 n0 c0) (.slice Y0 q0 d0) ∧ Bx wd.drew Q1 (.int .i64 T1.kind) (.bool T1.isB) (.string T1.text) (.slice X1 n1 c1) (.slice Y1 q1 d1) ∧ Bx wd.drew Q2 (.int .i64 T2.kind) (.bool T2.isB) (.string T2.text) (.slice X2 n2 c2) (.slice Y2 q2 d2) := ⟨Bx.same HU0.out rfl, Bx.same HU1.out rfl, Bx.same HU2.out rfl⟩
      refine region_calm (fun w' => Bx w' Q0 (.int .i64 T0.kind) (.bool T0.isB) (.string T0.text) (.slice X0 n0 c0) (.slice Y0 q0 d0) ∧ Bx w' Q1 (.int .i64 T1.kind) (.bool T1.isB) (.string T1.text) (.slice X1 n1 c1) (.slice Y1 q1 d1) ∧ Bx w' Q2 (.int .i64 T2.kind) (.bool T2.isB) (.string T2.text) (.slice X2 n2 c2) (.slice Y2 q2 d2)) [0, 1, 3, 4, 6, 7] (by kernel_rfl) ?_
      have rk0 : Below wd.heap.size wd wd.drew := ⟨rfl, rfl, rfl, Nat.le_refl _, fun _ _ => rfl⟩
      refine any_takeD 0 16 (.agg #[.int .i64 T0.kind, .bool T0.isB, .string T0.text, .slice X0 n0 c0, .slice Y0 q0 d0]) rfl rfl (by kernel_rfl) (by kernel_rfl) (by kernel_rfl) (by kernel_rfl) (fun _ _ _ h => h) (by rfl) ?_ HSS ?_
      · intro w' hS
        obtain ⟨za, zb, zc⟩ := hS
        have za_0 := za.c0; have za_1 := za.c1; have za_2 := za.c2; have za_3 := za.c3; have za_4 := za.c4
        have zb_0 := zb.c0; have zb_1 := zb.c1; have zb_2 := zb.c2; have zb_3 := zb.c3; have zb_4 := zb.c4
        have zc_0 := zc.c0; have zc_1 := zc.c1; have zc_2 := zc.c2; have zc_3 := zc.c3; have zc_4 := zc.c4
        go_simp
      simp only [Act.put, List.setIfInBounds_toArray, List.set_cons_zero, List.set_cons_succ]
      refine any_takeD 1 17 (.agg #[.int .i64 T1.kind, .bool T1.isB, .string T1.text, .slice X1 n1 c1, .slice Y1 q1 d1]) rfl rfl (by kernel_rfl) (by kernel_rfl) (by kernel_rfl) (by kernel_rfl) (fun _ _ _ h => h) (by rfl) ?_ HSS ?_
      · intro w' hS
        obtain ⟨za, zb, zc⟩ := hS
        have za_0 := za.c0; have za_1 := za.c1; have za_2 := za.c2; have za_3 := za.c3; have za_4 := za.c4
        have zb_0 := zb.c0; have zb_1 := zb.c1; have zb_2 := zb.c2; have zb_3 := zb.c3; have zb_4 := zb.c4
        have zc_0 := zc.c0; have zc_1 := zc.c1; have zc_2 := zc.c2; have zc_3 := zc.c3; have zc_4 := zc.c4
        go_simp
      simp only [Act.put, List.setIfInBounds_toArray, List.set_cons_zero, List.set_cons_succ]
      refine any_takeD 3 19 (.agg #[.int .i64 T1.kind, .bool T1.isB, .string T1.text, .slice X1 n1 c1, .slice Y1 q1 d1]) rfl rfl (by kernel_rfl) (by kernel_rfl) (by kernel_rfl) (by kernel_rfl) (fun _ _ _ h => h) (by rfl) ?_ HSS ?_
      · intro w' hS
        obtain ⟨za, zb, zc⟩ := hS
        have za_0 := za.c0; have za_1 := za.c1; have za_2 := za.c2; have za_3 := za.c3; have za_4 := za.c4
        have zb_0 := zb.c0; have zb_1 := zb.c1; have zb_2 := zb.c2; have zb_3 := zb.c3; have zb_4 := zb.c4
        have zc_0 := zc.c0; have zc_1 := zc.c1; have zc_2 := zc.c2; have zc_3 := zc.c3; have zc_4 := zc.c4
        go_simp
      simp only [Act.put, List.setIfInBounds_toArray, List.set_cons_zero, List.set_cons_succ]
      refine any_takeD 4 20 (.agg #[.int .i64 T2.kind, .bool T2.isB, .string T2.text, .slice X2 n2 c2, .slice Y2 q2 d2]) rfl rfl (by kernel_rfl) (by kernel_rfl) (by kernel_rfl) (by kernel_rfl) (fun _ _ _ h => h) (by rfl) ?_ HSS ?_
      · intro w' hS
        obtain ⟨za, zb, zc⟩ := hS
        have za_0 := za.c0; have za_1 := za.c1; have za_2 := za.c2; have za_3 := za.c3; have za_4 := za.c4
        have zb_0 := zb.c0; have zb_1 := zb.c1; have zb_2 := zb.c2; have zb_3 := zb.c3; have zb_4 := zb.c4
        have zc_0 := zc.c0; have zc_1 := zc.c1; have zc_2 := zc.c2; have zc_3 := zc.c3; have zc_4 := zc.c4
        go_simp
      simp only [Act.put, List.setIfInBounds_toArray, List.set_cons_zero, List.set_cons_succ]
      refine any_takeD 6 22 (.agg #[.int .i64 T0.kind, .bool T0.isB, .string T0.text, .slice X0 n0 c0, .slice Y0 q0 d0]) rfl rfl (by kernel_rfl) (by kernel_rfl) (by kernel_rfl) (by kernel_rfl) (fun _ _ _ h => h) (by rfl) ?_ HSS ?_
      · intro w' hS
        obtain ⟨za, zb, zc⟩ := hS
        have za_0 := za.c0; have za_1 := za.c1; have za_2 := za.c2; have za_3 := za.c3; have za_4 := za.c4
        have zb_0 := zb.c0; have zb_1 := zb.c1; have zb_2 := zb.c2; have zb_3 := zb.c3; have zb_4 := zb.c4
        have zc_0 := zc.c0; have zc_1 := zc.c1; have zc_2 := zc.c2; have zc_3 := zc.c3; have zc_4 := zc.c4
        go_simp
      simp only [Act.put, List.setIfInBounds_toArray, List.set_cons_zero, List.set_cons_succ]
      refine any_takeD 7 23 (.agg #[.int .i64 T2.kind, .bool T2.isB, .string T2.text, .slice X2 n2 c2, .slice Y2 q2 d2]) rfl rfl (by kernel_rfl) (by kernel_rfl) (by kernel_rfl) (by kernel_rfl) (fun _ _ _ h => h) (by rfl) ?_ HSS ?_
      · intro w' hS
        obtain ⟨za, zb, zc⟩ := hS
        have za_0 := za.c0; have za_1 := za.c1; have za_2 := za.c2; have za_3 := za.c3; have za_4 := za.c4
        have zb_0 := zb.c0; have zb_1 := zb.c1; have zb_2 := zb.c2; have zb_3 := zb.c3; have zb_4 := zb.c4
        have zc_0 := zc.c0; have zc_1 := zc.c1; have zc_2 := zc.c2; have zc_3 := zc.c3; have zc_4 := zc.c4
        go_simp
      simp only [Act.put, List.setIfInBounds_toArray, List.set_cons_zero, List.set_cons_succ]
      refine any_callV 2 18 (by kernel_rfl) rfl rfl (by rfl) (fn := 22) (args := #[.agg #[.int .i64 T0.kind, .bool T0.isB, .string T0.text, .slice X0 n0 c0, .slice Y0 q0 d0], .agg #[.int .i64 T1.kind, .bool T1.isB, .string T1.text, .slice X1 n1 c1, .slice Y1 q1 d1]]) ?_ (equal_any T0 T1 _ _ wd.drew (Vl.up rk0 _ VV0.out) (Vl.up rk0 _ VV1.out)) ?_
      · go_simp
      rintro e r1 ⟨rfl, hr1⟩
      have rk1 := extV rk0 hr1
      rw [hab]
      have HSS : Bx r1 Q0 (.int .i64 T0.kind) (.bool T0.isB) (.string T0.text) (.slice X0 n0 c0) (.slice Y0 q0 d0) ∧ Bx r1 Q1 (.int .i64 T1.kind) (.bool T1.isB) (.string T1.text) (.slice X1 n1 c1) (.slice Y1 q1 d1) ∧ Bx r1 Q2 (.int .i64 T2.kind) (.bool T2.isB) (.string T2.text) (.slice X2 n2 c2) (.slice Y2 q2 d2) := ⟨HSS.1.below hr1 HSS.1.lt, HSS.2.1.below hr1 HSS.2.1.lt, HSS.2.2.below hr1 HSS.2.2.lt⟩
      refine ⟨_, rfl, .inr HSS, ?_⟩
      simp only [Act.put, List.setIfInBounds_toArray, List.set_cons_zero, List.set_cons_succ]
      refine any_callV 5 21 (by kernel_rfl) rfl rfl (by rfl) (fn := 22) (args := #[.agg #[.int .i64 T1.kind, .bool T1.isB, .string T1.text, .slice X1 n1 c1, .slice Y1 q1 d1], .agg #[.int .i64 T2.kind, .bool T2.isB, .string T2.text, .slice X2 n2 c2, .slice Y2 q2 d2]]) ?_ (equal_any T1 T2 _ _ r1 (Vl.up rk1 _ VV1.out) (Vl.up rk1 _ VV2.out)) ?_
      · go_simp
      rintro e r2 ⟨rfl, hr2⟩
      have rk2 := extV rk1 hr2
      rw [hbc]
      have HSS : Bx r2 Q0 (.int .i64 T0.kind) (.bool T0.isB) (.string T0.text) (.slice X0 n0 c0) (.slice Y0 q0 d0) ∧ Bx r2 Q1 (.int .i64 T1.kind) (.bool T1.isB) (.string T1.text) (.slice X1 n1 c1) (.slice Y1 q1 d1) ∧ Bx r2 Q2 (.int .i64 T2.kind) (.bool T2.isB) (.string T2.text) (.slice X2 n2 c2) (.slice Y2 q2 d2) := ⟨HSS.1.below hr2 HSS.1.lt, HSS.2.1.below hr2 HSS.2.1.lt, HSS.2.2.below hr2 HSS.2.2.lt⟩
      refine ⟨_, rfl, .inr HSS, ?_⟩
      simp only [Act.put, List.setIfInBounds_toArray, List.set_cons_zero, List.set_cons_succ]
      refine any_callV 8 24 (by kernel_rfl) rfl rfl (by rfl) (fn := 22) (args := #[.agg #[.int .i64 T0.kind, .bool T0.isB, .string T0.text, .slice X0 n0 c0, .slice Y0 q0 d0], .agg #[.int .i64 T2.kind, .bool T2.isB, .string T2.text, .slice X2 n2 c2, .slice Y2 q2 d2]]) ?_ (equal_any T0 T2 _ _ r2 (Vl.up rk2 _ VV0.out) (Vl.up rk2 _ VV2.out)) ?_
      · go_simp
      rintro e r3 ⟨rfl, hr3⟩
      have rk3 := extV rk2 hr3
      rw [hac]
      have HSS : Bx r3 Q0 (.int .i64 T0.kind) (.bool T0.isB) (.string T0.text) (.slice X0 n0 c0) (.slice Y0 q0 d0) ∧ Bx r3 Q1 (.int .i64 T1.kind) (.bool T1.isB) (.string T1.text) (.slice X1 n1 c1) (.slice Y1 q1 d1) ∧ Bx r3 Q2 (.int .i64 T2.kind) (.bool T2.isB) (.string T2.text) (.slice X2 n2 c2) (.slice Y2 q2 d2) := ⟨HSS.1.below hr3 HSS.1.lt, HSS.2.1.below hr3 HSS.2.1.lt, HSS.2.2.below hr3 HSS.2.2.lt⟩
      refine ⟨_, rfl, .inr HSS, ?_⟩
      simp only [Act.put, List.setIfInBounds_toArray, List.set_cons_zero, List.set_cons_succ]
      refine any_runD 9 7 (.bool false) r3 (by kernel_rfl) rfl rfl (by rfl) ?_ (.inr HSS) ?_
      · obtain ⟨za, zb, zc⟩ := HSS
        have za_0 := za.c0; have za_1 := za.c1; have za_2 := za.c2; have za_3 := za.c3; have za_4 := za.c4
        have zb_0 := zb.c0; have zb_1 := zb.c1; have zb_2 := zb.c2; have zb_3 := zb.c3; have zb_4 := zb.c4
        have zc_0 := zc.c0; have zc_1 := zc.c1; have zc_2 := zc.c2; have zc_3 := zc.c3; have zc_4 := zc.c4
        go_simp
      simp only [Act.put, List.setIfInBounds_toArray, List.set_cons_zero, List.set_cons_succ]
      refine any_runD 10 8 (.bool true) r3 (by kernel_rfl) rfl rfl (by rfl) ?_ (.inr HSS) ?_
      · obtain ⟨za, zb, zc⟩ := HSS
        have za_0 := za.c0; have za_1 := za.c1; have za_2 := za.c2; have za_3 := za.c3; have za_4 := za.c4
        have zb_0 := zb.c0; have zb_1 := zb.c1; have zb_2 := zb.c2; have zb_3 := zb.c3; have zb_4 := zb.c4
        have zc_0 := zc.c0; have zc_1 := zc.c1; have zc_2 := zc.c2; have zc_3 := zc.c3; have zc_4 := zc.c4
        go_simp
      simp only [Act.put, List.setIfInBounds_toArray, List.set_cons_zero, List.set_cons_succ]
      refine any_runD 11 9 (.bool false) r3 (by kernel_rfl) rfl rfl (by rfl) ?_ (.inr HSS) ?_
      · obtain ⟨za, zb, zc⟩ := HSS
        have za_0 := za.c0; have za_1 := za.c1; have za_2 := za.c2; have za_3 := za.c3; have za_4 := za.c4
        have zb_0 := zb.c0; have zb_1 := zb.c1; have zb_2 := zb.c2; have zb_3 := zb.c3; have zb_4 := zb.c4
        have zc_0 := zc.c0; have zc_1 := zc.c1; have zc_2 := zc.c2; have zc_3 := zc.c3; have zc_4 := zc.c4
        go_simp
      simp only [Act.put, List.setIfInBounds_toArray, List.set_cons_zero, List.set_cons_succ]
      refine any_done (by kernel_rfl) ?_ _
      refine calm_normal ?_
      obtain ⟨v0, v1, v2⟩ := HSS
      have BE := Lib.hid (extV BW.out rk3)
      have e00 := v0.c0; have e01 := v0.c1; have e02 := v0.c2; have e03 := v0.c3; have e04 := v0.c4
      have e10 := v1.c0; have e11 := v1.c1; have e12 := v1.c2; have e13 := v1.c3; have e14 := v1.c4
      have K0 := Lib.hid v0
      have K1 := Lib.hid v1
      have KV0 := Lib.hid (Vl.up rk3 _ VV0.out)
      have KV1 := Lib.hid (Vl.up rk3 _ VV1.out)
      clear v0 v1 v2
      go_wp2_with fail
      refine (equal_any T0 T0 _ _ r3 KV0.out KV0.out).mono ?_
      rintro e w5 ⟨rfl, hb5⟩
      rw [alk_self]
      have BE5 := Lib.hid (extV BE.out hb5)
      have v0 := K0.out.below hb5 K0.out.lt
      have v1 := K1.out.below hb5 K1.out.lt
      have KW0 := Lib.hid (Vl.up hb5 _ KV0.out)
      have KW1 := Lib.hid (Vl.up hb5 _ KV1.out)
      clear e00 e01 e02 e03 e04 e10 e11 e12 e13 e14
      have e00 := v0.c0; have e01 := v0.c1; have e02 := v0.c2; have e03 := v0.c3; have e04 := v0.c4
      have e10 := v1.c0; have e11 := v1.c1; have e12 := v1.c2; have e13 := v1.c3; have e14 := v1.c4
      clear hb5 v0 v1
      go_wp2_with fail
      refine (equal_any T1 T0 _ _ w5 KW1.out KW0.out).mono ?_
      rintro e w6 ⟨rfl, hb6⟩
      rw [alk_symm T1 T0, hab]
      have BE6 := Lib.hid (extV BE5.out hb6)
      clear hb6
      clear e00 e01 e02 e03 e04 e10 e11 e12 e13 e14
      go_wp2_with fail
      refine (awake_any _ (TB.out _ BE6.out)).mono ?_
      rintro e wz ⟨rfl, hbz⟩
      have BZ := Lib.hid (extV BE6.out hbz)
      clear hbz
      go_wp2_with fail
      go_ret
      exact ⟨rfl, BZ.out⟩
    · obtain ⟨ac, hac⟩ : ∃ b, alk T0 T2 = b := ⟨_, rfl⟩
      go_upto_region 3 with fail
      have HSS : Bx wd.drew Q0 (.int .i64 T0.kind) (.bool T0.isB) (.string T0.text) (.slice X0 n0 c0) (.slice Y0 q0 d0) ∧ Bx wd.drew Q1 (.int .i64 T1.kind) (.bool T1.isB) (.string T1.text) (.slice X1 n1 c1) (.slice Y1 q1 d1) ∧ Bx wd.drew Q2 (.int .i64 T2.kind) (.bool T2.isB) (.string T2.text) (.slice X2 n2 c2) (.slice Y2 q2 d2) := ⟨Bx.same HU0.out rfl, Bx.same HU1.out rfl, Bx.same HU2.out rfl⟩
      refine region_calm (fun w' => Bx w' Q0 (.int .i64 T0.kind) (.bool T0.isB) (.string T0.text) (.slice X0 n0 c0) (.slice Y0 q0 d0) ∧ Bx w' Q1 (.int .i64 T1.kind) (.bool T1.isB) (.string T1.text) (.slice X1 n1 c1) (.slice Y1 q1 d1) ∧ Bx w' Q2 (.int .i64 T2.kind) (.bool T2.isB) (.string T2.text) (.slice X2 n2 c2) (.slice Y2 q2 d2)) [0, 1, 3, 4, 6, 7] (by kernel_rfl) ?_
      have rk0 : Below wd.heap.size wd wd.drew := ⟨rfl, rfl, rfl, Nat.le_refl _, fun _ _ => rfl⟩
      refine any_takeD 0 16 (.agg #[.int .i64 T0.kind, .bool T0.isB, .string T0.text, .slice X0 n0 c0, .slice Y0 q0 d0]) rfl rfl (by kernel_rfl) (by kernel_rfl) (by kernel_rfl) (by kernel_rfl) (fun _ _ _ h => h) (by rfl) ?_ HSS ?_
      · intro w' hS
        obtain ⟨za, zb, zc⟩ := hS
        have za_0 := za.c0; have za_1 := za.c1; have za_2 := za.c2; have za_3 := za.c3; have za_4 := za.c4
        have zb_0 := zb.c0; have zb_1 := zb.c1; have zb_2 := zb.c2; have zb_3 := zb.c3; have zb_4 := zb.c4
        have zc_0 := zc.c0; have zc_1 := zc.c1; have zc_2 := zc.c2; have zc_3 := zc.c3; have zc_4 := zc.c4
        go_simp
      simp only [Act.put, List.setIfInBounds_toArray, List.set_cons_zero, List.set_cons_succ]
      refine any_takeD 1 17 (.agg #[.int .i64 T1.kind, .bool T1.isB, .string T1.text, .slice X1 n1 c1, .slice Y1 q1 d1]) rfl rfl (by kernel_rfl) (by kernel_rfl) (by kernel_rfl) (by kernel_rfl) (fun _ _ _ h => h) (by rfl) ?_ HSS ?_
      · intro w' hS
        obtain ⟨za, zb, zc⟩ := hS
        have za_0 := za.c0; have za_1 := za.c1; have za_2 := za.c2; have za_3 := za.c3; have za_4 := za.c4
        have zb_0 := zb.c0; have zb_1 := zb.c1; have zb_2 := zb.c2; have zb_3 := zb.c3; have zb_4 := zb.c4
        have zc_0 := zc.c0; have zc_1 := zc.c1; have zc_2 := zc.c2; have zc_3 := zc.c3; have zc_4 := zc.c4
        go_simp
      simp only [Act.put, List.setIfInBounds_toArray, List.set_cons_zero, List.set_cons_succ]
      refine any_takeD 3 19 (.agg #[.int .i64 T1.kind, .bool T1.isB, .string T1.text, .slice X1 n1 c1, .slice Y1 q1 d1]) rfl rfl (by kernel_rfl) (by kernel_rfl) (by kernel_rfl) (by kernel_rfl) (fun _ _ _ h => h) (by rfl) ?_ HSS ?_
      · intro w' hS
        obtain ⟨za, zb, zc⟩ := hS
        have za_0 := za.c0; have za_1 := za.c1; have za_2 := za.c2; have za_3 := za.c3; have za_4 := za.c4
        have zb_0 := zb.c0; have zb_1 := zb.c1; have zb_2 := zb.c2; have zb_3 := zb.c3; have zb_4 := zb.c4
        have zc_0 := zc.c0; have zc_1 := zc.c1; have zc_2 := zc.c2; have zc_3 := zc.c3; have zc_4 := zc.c4
        go_simp
      simp only [Act.put, List.setIfInBounds_toArray, List.set_cons_zero, List.set_cons_succ]
      refine any_takeD 4 20 (.agg #[.int .i64 T2.kind, .bool T2.isB, .string T2.text, .slice X2 n2 c2, .slice Y2 q2 d2]) rfl rfl (by kernel_rfl) (by kernel_rfl) (by kernel_rfl) (by kernel_rfl) (fun _ _ _ h => h) (by rfl) ?_ HSS ?_
      · intro w' hS
        obtain ⟨za, zb, zc⟩ := hS
        have za_0 := za.c0; have za_1 := za.c1; have za_2 := za.c2; have za_3 := za.c3; have za_4 := za.c4
        have zb_0 := zb.c0; have zb_1 := zb.c1; have zb_2 := zb.c2; have zb_3 := zb.c3; have zb_4 := zb.c4
        have zc_0 := zc.c0; have zc_1 := zc.c1; have zc_2 := zc.c2; have zc_3 := zc.c3; have zc_4 := zc.c4
        go_simp
      simp only [Act.put, List.setIfInBounds_toArray, List.set_cons_zero, List.set_cons_succ]
      refine any_takeD 6 22 (.agg #[.int .i64 T0.kind, .bool T0.isB, .string T0.text, .slice X0 n0 c0, .slice Y0 q0 d0]) rfl rfl (by kernel_rfl) (by kernel_rfl) (by kernel_rfl) (by kernel_rfl) (fun _ _ _ h => h) (by rfl) ?_ HSS ?_
      · intro w' hS
        obtain ⟨za, zb, zc⟩ := hS
        have za_0 := za.c0; have za_1 := za.c1; have za_2 := za.c2; have za_3 := za.c3; have za_4 := za.c4
        have zb_0 := zb.c0; have zb_1 := zb.c1; have zb_2 := zb.c2; have zb_3 := zb.c3; have zb_4 := zb.c4
        have zc_0 := zc.c0; have zc_1 := zc.c1; have zc_2 := zc.c2; have zc_3 := zc.c3; have zc_4 := zc.c4
        go_simp
      simp only [Act.put, List.setIfInBounds_toArray, List.set_cons_zero, List.set_cons_succ]
      refine any_takeD 7 23 (.agg #[.int .i64 T2.kind, .bool T2.isB, .string T2.text, .slice X2 n2 c2, .slice Y2 q2 d2]) rfl rfl (by kernel_rfl) (by kernel_rfl) (by kernel_rfl) (by kernel_rfl) (fun _ _ _ h => h) (by rfl) ?_ HSS ?_
      · intro w' hS
        obtain ⟨za, zb, zc⟩ := hS
        have za_0 := za.c0; have za_1 := za.c1; have za_2 := za.c2; have za_3 := za.c3; have za_4 := za.c4
        have zb_0 := zb.c0; have zb_1 := zb.c1; have zb_2 := zb.c2; have zb_3 := zb.c3; have zb_4 := zb.c4
        have zc_0 := zc.c0; have zc_1 := zc.c1; have zc_2 := zc.c2; have zc_3 := zc.c3; have zc_4 := zc.c4
        go_simp
      simp only [Act.put, List.setIfInBounds_toArray, List.set_cons_zero, List.set_cons_succ]
      refine any_callV 2 18 (by kernel_rfl) rfl rfl (by rfl) (fn := 22) (args := #[.agg #[.int .i64 T0.kind, .bool T0.isB, .string T0.text, .slice X0 n0 c0, .slice Y0 q0 d0], .agg #[.int .i64 T1.kind, .bool T1.isB, .string T1.text, .slice X1 n1 c1, .slice Y1 q1 d1]]) ?_ (equal_any T0 T1 _ _ wd.drew (Vl.up rk0 _ VV0.out) (Vl.up rk0 _ VV1.out)) ?_
      · go_simp
      rintro e r1 ⟨rfl, hr1⟩
      have rk1 := extV rk0 hr1
      rw [hab]
      have HSS : Bx r1 Q0 (.int .i64 T0.kind) (.bool T0.isB) (.string T0.text) (.slice X0 n0 c0) (.slice Y0 q0 d0) ∧ Bx r1 Q1 (.int .i64 T1.kind) (.bool T1.isB) (.string T1.text) (.slice X1 n1 c1) (.slice Y1 q1 d1) ∧ Bx r1 Q2 (.int .i64 T2.kind) (.bool T2.isB) (.string T2.text) (.slice X2 n2 c2) (.slice Y2 q2 d2) := ⟨HSS.1.below hr1 HSS.1.lt, HSS.2.1.below hr1 HSS.2.1.lt, HSS.2.2.below hr1 HSS.2.2.lt⟩
      refine ⟨_, rfl, .inr HSS, ?_⟩
      simp only [Act.put, List.setIfInBounds_toArray, List.set_cons_zero, List.set_cons_succ]
      refine any_callV 5 21 (by kernel_rfl) rfl rfl (by rfl) (fn := 22) (args := #[.agg #[.int .i64 T1.kind, .bool T1.isB, .string T1.text, .slice X1 n1 c1, .slice Y1 q1 d1], .agg #[.int .i64 T2.kind, .bool T2.isB, .string T2.text, .slice X2 n2 c2, .slice Y2 q2 d2]]) ?_ (equal_any T1 T2 _ _ r1 (Vl.up rk1 _ VV1.out) (Vl.up rk1 _ VV2.out)) ?_
      · go_simp
      rintro e r2 ⟨rfl, hr2⟩
      have rk2 := extV rk1 hr2
      rw [hbc]
      have HSS : Bx r2 Q0 (.int .i64 T0.kind) (.bool T0.isB) (.string T0.text) (.slice X0 n0 c0) (.slice Y0 q0 d0) ∧ Bx r2 Q1 (.int .i64 T1.kind) (.bool T1.isB) (.string T1.text) (.slice X1 n1 c1) (.slice Y1 q1 d1) ∧ Bx r2 Q2 (.int .i64 T2.kind) (.bool T2.isB) (.string T2.text) (.slice X2 n2 c2) (.slice Y2 q2 d2) := ⟨HSS.1.below hr2 HSS.1.lt, HSS.2.1.below hr2 HSS.2.1.lt, HSS.2.2.below hr2 HSS.2.2.lt⟩
      refine ⟨_, rfl, .inr HSS, ?_⟩
      simp only [Act.put, List.setIfInBounds_toArray, List.set_cons_zero, List.set_cons_succ]
      refine any_callV 8 24 (by kernel_rfl) rfl rfl (by rfl) (fn := 22) (args := #[.agg #[.int .i64 T0.kind, .bool T0.isB, .string T0.text, .slice X0 n0 c0, .slice Y0 q0 d0], .agg #[.int .i64 T2.kind, .bool T2.isB, .string T2.text, .slice X2 n2 c2, .slice Y2 q2 d2]]) ?_ (equal_any T0 T2 _ _ r2 (Vl.up rk2 _ VV0.out) (Vl.up rk2 _ VV2.out)) ?_
      · go_simp
      rintro e r3 ⟨rfl, hr3⟩
      have rk3 := extV rk2 hr3
      rw [hac]
      have HSS : Bx r3 Q0 (.int .i64 T0.kind) (.bool T0.isB) (.string T0.text) (.slice X0 n0 c0) (.slice Y0 q0 d0) ∧ Bx r3 Q1 (.int .i64 T1.kind) (.bool T1.isB) (.string T1.text) (.slice X1 n1 c1) (.slice Y1 q1 d1) ∧ Bx r3 Q2 (.int .i64 T2.kind) (.bool T2.isB) (.string T2.text) (.slice X2 n2 c2) (.slice Y2 q2 d2) := ⟨HSS.1.below hr3 HSS.1.lt, HSS.2.1.below hr3 HSS.2.1.lt, HSS.2.2.below hr3 HSS.2.2.lt⟩
      refine ⟨_, rfl, .inr HSS, ?_⟩
      simp only [Act.put, List.setIfInBounds_toArray, List.set_cons_zero, List.set_cons_succ]
      refine any_runD 9 7 (.bool false) r3 (by kernel_rfl) rfl rfl (by rfl) ?_ (.inr HSS) ?_
      · obtain ⟨za, zb, zc⟩ := HSS
        have za_0 := za.c0; have za_1 := za.c1; have za_2 := za.c2; have za_3 := za.c3; have za_4 := za.c4
        have zb_0 := zb.c0; have zb_1 := zb.c1; have zb_2 := zb.c2; have zb_3 := zb.c3; have zb_4 := zb.c4
        have zc_0 := zc.c0; have zc_1 := zc.c1; have zc_2 := zc.c2; have zc_3 := zc.c3; have zc_4 := zc.c4
        go_simp
      simp only [Act.put, List.setIfInBounds_toArray, List.set_cons_zero, List.set_cons_succ]
      refine any_runD 10 8 (.bool false) r3 (by kernel_rfl) rfl rfl (by rfl) ?_ (.inr HSS) ?_
      · obtain ⟨za, zb, zc⟩ := HSS
        have za_0 := za.c0; have za_1 := za.c1; have za_2 := za.c2; have za_3 := za.c3; have za_4 := za.c4
        have zb_0 := zb.c0; have zb_1 := zb.c1; have zb_2 := zb.c2; have zb_3 := zb.c3; have zb_4 := zb.c4
        have zc_0 := zc.c0; have zc_1 := zc.c1; have zc_2 := zc.c2; have zc_3 := zc.c3; have zc_4 := zc.c4
        go_simp
      simp only [Act.put, List.setIfInBounds_toArray, List.set_cons_zero, List.set_cons_succ]
      refine any_runD 11 9 (.bool ac) r3 (by kernel_rfl) rfl rfl (by rfl) ?_ (.inr HSS) ?_
      · obtain ⟨za, zb, zc⟩ := HSS
        have za_0 := za.c0; have za_1 := za.c1; have za_2 := za.c2; have za_3 := za.c3; have za_4 := za.c4
        have zb_0 := zb.c0; have zb_1 := zb.c1; have zb_2 := zb.c2; have zb_3 := zb.c3; have zb_4 := zb.c4
        have zc_0 := zc.c0; have zc_1 := zc.c1; have zc_2 := zc.c2; have zc_3 := zc.c3; have zc_4 := zc.c4
        go_simp
      simp only [Act.put, List.setIfInBounds_toArray, List.set_cons_zero, List.set_cons_succ]
      refine any_done (by kernel_rfl) ?_ _
      refine calm_normal ?_
      obtain ⟨v0, v1, v2⟩ := HSS
      have BE := Lib.hid (extV BW.out rk3)
      have e00 := v0.c0; have e01 := v0.c1; have e02 := v0.c2; have e03 := v0.c3; have e04 := v0.c4
      have e10 := v1.c0; have e11 := v1.c1; have e12 := v1.c2; have e13 := v1.c3; have e14 := v1.c4
      have K0 := Lib.hid v0
      have K1 := Lib.hid v1
      have KV0 := Lib.hid (Vl.up rk3 _ VV0.out)
      have KV1 := Lib.hid (Vl.up rk3 _ VV1.out)
      clear v0 v1 v2
      go_wp2_with fail
      refine (equal_any T0 T0 _ _ r3 KV0.out KV0.out).mono ?_
      rintro e w5 ⟨rfl, hb5⟩
      rw [alk_self]
      have BE5 := Lib.hid (extV BE.out hb5)
      have v0 := K0.out.below hb5 K0.out.lt
      have v1 := K1.out.below hb5 K1.out.lt
      have KW0 := Lib.hid (Vl.up hb5 _ KV0.out)
      have KW1 := Lib.hid (Vl.up hb5 _ KV1.out)
      clear e00 e01 e02 e03 e04 e10 e11 e12 e13 e14
      have e00 := v0.c0; have e01 := v0.c1; have e02 := v0.c2; have e03 := v0.c3; have e04 := v0.c4
      have e10 := v1.c0; have e11 := v1.c1; have e12 := v1.c2; have e13 := v1.c3; have e14 := v1.c4
      clear hb5 v0 v1
      go_wp2_with fail
      refine (equal_any T1 T0 _ _ w5 KW1.out KW0.out).mono ?_
      rintro e w6 ⟨rfl, hb6⟩
      rw [alk_symm T1 T0, hab]
      have BE6 := Lib.hid (extV BE5.out hb6)
      clear hb6
      clear e00 e01 e02 e03 e04 e10 e11 e12 e13 e14
      go_wp2_with fail
      refine (awake_any _ (TB.out _ BE6.out)).mono ?_
      rintro e wz ⟨rfl, hbz⟩
      have BZ := Lib.hid (extV BE6.out hbz)
      clear hbz
      go_wp2_with fail
      go_ret
      exact ⟨rfl, BZ.out⟩
end Go.Proofs.YtlgeibaejeiemaaDoor
