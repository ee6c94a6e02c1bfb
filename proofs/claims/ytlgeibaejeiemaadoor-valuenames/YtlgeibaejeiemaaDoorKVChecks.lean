/-
  The walk of ValueChecks.
-/
import Derived.Test.YtlgeibaejeiemaaDoorVx
namespace Go.Proofs.YtlgeibaejeiemaaDoor
set_option linter.unusedVariables false
set_option linter.unusedSimpArgs false
open Go.RowKit
open Wd We Vt

set_option maxRecDepth 100000 in
set_option maxHeartbeats 16000000 in
theorem walk_ValueChecks (v0 : Value) (T0 : Vt.Tr) (w : World) (s0 : Vt.Vl w v0 T0) (m0 : Vt.Sm T0) (tab : It.Tab w) :
    Calls Tryd.prog 3 #[v0] w fun e w' => e = .returned (.bool true) ∧ Below w.heap.size w w' := by
  obtain ⟨X0, n0, c0, Y0, q0, d0, rfl, _⟩ := s0.open_
  have HV0 := Lib.hid s0
  have HM0 := Lib.hid m0
  have TB := Lib.hid (fun (w' : World) (h : Below w.heap.size w w') => tab.below h)
  obtain ⟨Q0, hQ0⟩ : ∃ Q, w.heap.size = Q := ⟨_, rfl⟩
  obtain ⟨W1, hW1⟩ : ∃ W, w.alloc (.cells #[.int .i64 T0.kind, .bool T0.isB, .string T0.text, .slice X0 n0 c0, .slice Y0 q0 d0] 25) = W := ⟨_, rfl⟩
  have z1 : W1.heap.size = Q0 + 1 := by rw [← hW1, World.size_alloc]; omega
  have b1 : Below w.heap.size w W1 := by rw [← hW1]; exact below_allocV w _
  have x0 : Bx W1 Q0 (.int .i64 T0.kind) (.bool T0.isB) (.string T0.text) (.slice X0 n0 c0) (.slice Y0 q0 d0) := by rw [← hW1, show Q0 = w.heap.size by omega]; exact heap_alloc_new w _
  have bb1 : Below w.heap.size w W1 := b1
  obtain ⟨W2, hW2⟩ : ∃ W, W1.alloc (.cells #[.int .i64 T0.kind, .bool T0.isB, .string T0.text, .slice X0 n0 c0, .slice Y0 q0 d0] 25) = W := ⟨_, rfl⟩
  have bl : Below W1.heap.size W1 W2 := by rw [← hW2]; exact below_allocV W1 _
  have bbl : Below w.heap.size w W2 := extV bb1 bl
  have y0 := x0.below bl (by omega)
  have HX0 := Lib.hid y0
  have vv0 := Vl.up bbl _ s0
  have UV0 := Lib.hid vv0
  have VLL : VL W2 (some ⟨W1.heap.size, 0, none⟩) 1 1 [T0] := VL.one_at (by rw [← hW2]; exact heap_alloc_new W1 _) vv0
  have CT := Lib.hid (deepList_any _ _ _ _ W2 VLL)
  have a00 := x0.c0; have a01 := x0.c1; have a02 := x0.c2; have a03 := x0.c3; have a04 := x0.c4
  have BL := Lib.hid bbl
  have HW1 := Lib.hid hW1
  have HW2 := Lib.hid hW2
  have HQ0 := Lib.hid hQ0
  have HZ1 := Lib.hid z1
  clear tab s0 m0 hQ0 hW1 z1 b1 bb1 x0 y0 vv0 hW2 bl bbl VLL
  go_enter Tryd.func3, Tryd.ntmps3
  go_upto_region 1 with fail
  rw [HW1.out, HQ0.out]
  rw [HZ1.out] at CT
  obtain ⟨QL, hQL⟩ : ∃ Q, Q0 + 1 = Q := ⟨_, rfl⟩
  rw [hQL] at CT
  have HQL := Lib.hid hQL
  clear hQL
  go_wp2_with fail
  rw [HW2.out]
  rw [HZ1.out, HQL.out]
  refine CT.out.mono ?_
  rintro e w3 ⟨rfl, hb⟩
  have BW := Lib.hid (extV BL.out hb)
  have u0 := HX0.out.below hb HX0.out.lt
  have HU0 := Lib.hid u0
  clear hb a00 a01 a02 a03 a04
  have a00 := u0.c0; have a01 := u0.c1; have a02 := u0.c2; have a03 := u0.c3; have a04 := u0.c4
  clear u0
  cases hdp : dpL [T0] 991 with
  | true =>
    clear hdp
    go_wp2_with fail
    refine (awake_any _ (TB.out _ BW.out)).mono ?_
    rintro e wz ⟨rfl, hbz⟩
    have BZ := Lib.hid (extV BW.out hbz)
    clear hbz
    go_wp2_with fail
    go_ret
    exact ⟨rfl, BZ.out⟩
  | false =>
    have HD0 := Lib.hid (dp_no hdp (show T0 ∈ [T0] by simp))
    clear hdp
    have VV0 := Lib.hid (Vl.up BW.out _ HV0.out)
    go_wp2_with fail
    refine (rcopy_any _ _ w3 VV0.out).mono ?_
    rintro e w4 ⟨A4, m4, c4, B4, q4, d4, rfl, hb4, ho4⟩
    have BW4 := Lib.hid (extV BW.out hb4)
    have HU4 := Lib.hid (HU0.out.below hb4 HU0.out.lt)
    have HO4 := Lib.hid (ho4.vl _)
    have HV4 := Lib.hid (Vl.up hb4 _ VV0.out)
    clear hb4 ho4 a00 a01 a02 a03 a04
    obtain ⟨R1, hR1⟩ : ∃ R, w4.heap.size = R := ⟨_, rfl⟩
    obtain ⟨U1, hU1⟩ : ∃ U, w4.alloc (.cells #[.int .i64 0, .bool false, .string ⟨#[]⟩, .slice none 0 0, .slice none 0 0] 25) = U := ⟨_, rfl⟩
    obtain ⟨nb, nb2⟩ := newbox hR1 hU1
    obtain ⟨nb3, nb4, nb5⟩ := nb2 (.int .i64 T0.kind) (.bool T0.isB) (.string T0.text) (.slice A4 m4 c4) (.slice B4 q4 d4)
    have e0 := nb.c0; have e1 := nb.c1; have e2 := nb.c2; have e3 := nb.c3; have e4 := nb.c4
    have f0 := nb.fz 0; have f1 := nb.fz 1; have f2 := nb.fz 2; have f3 := nb.fz 3; have f4 := nb.fz 4
    obtain ⟨V1, hV1⟩ : ∃ V, put5 U1 R1 (.int .i64 T0.kind) (.bool T0.isB) (.string T0.text) (.slice A4 m4 c4) (.slice B4 q4 d4) = V := ⟨_, rfl⟩
    rw [hV1] at nb3 nb4 nb5
    have HV1 := Lib.hid hV1
    have HR1 := Lib.hid hR1
    have N1 := Lib.hid nb3
    have NB1 := Lib.hid nb4
    have NS1 := Lib.hid nb5
    clear hV1 nb nb2 nb3 nb4 nb5
    go_upto_region 4 with fail
    rw [show ((((U1.setCell ⟨R1, 0, none⟩ (.int .i64 T0.kind)).setCell ⟨R1, 1, none⟩ (.bool T0.isB)).setCell ⟨R1, 2, none⟩ (.string T0.text)).setCell ⟨R1, 3, none⟩ (.slice A4 m4 c4)).setCell ⟨R1, 4, none⟩ (.slice B4 q4 d4) = V1 from HV1.out]
    clear e0 e1 e2 e3 e4 f0 f1 f2 f3 f4 hU1
    have p0 := HU4.out.below NB1.out HU4.out.lt
    have p1 := N1.out
    have hvc := Vl.up NB1.out _ HO4.out
    have hvo := Vl.up NB1.out _ HV4.out
    have BV1 := Lib.hid (extV BW4.out NB1.out)
    clear hR1
    have HSS : Bx V1.drew Q0 (.int .i64 T0.kind) (.bool T0.isB) (.string T0.text) (.slice X0 n0 c0) (.slice Y0 q0 d0) ∧ Bx V1.drew R1 (.int .i64 T0.kind) (.bool T0.isB) (.string T0.text) (.slice A4 m4 c4) (.slice B4 q4 d4) := ⟨Bx.same p0 rfl, Bx.same p1 rfl⟩
    refine region_calm (fun w' => Bx w' Q0 (.int .i64 T0.kind) (.bool T0.isB) (.string T0.text) (.slice X0 n0 c0) (.slice Y0 q0 d0) ∧ Bx w' R1 (.int .i64 T0.kind) (.bool T0.isB) (.string T0.text) (.slice A4 m4 c4) (.slice B4 q4 d4)) [0, 2, 6, 8, 13] (by kernel_rfl) ?_
    have rk0 : Below V1.heap.size V1 V1.drew := ⟨rfl, rfl, rfl, Nat.le_refl _, fun _ _ => rfl⟩
    refine any_takeD 0 10 (.agg #[.int .i64 T0.kind, .bool T0.isB, .string T0.text, .slice A4 m4 c4, .slice B4 q4 d4]) rfl rfl (by kernel_rfl) (by kernel_rfl) (by kernel_rfl) (by kernel_rfl) (fun _ _ _ h => h) (by rfl) ?_ HSS ?_
    · intro w' hS
      obtain ⟨za, zb⟩ := hS
      have za_0 := za.c0; have za_1 := za.c1; have za_2 := za.c2; have za_3 := za.c3; have za_4 := za.c4
      have zb_0 := zb.c0; have zb_1 := zb.c1; have zb_2 := zb.c2; have zb_3 := zb.c3; have zb_4 := zb.c4
      go_simp
    simp only [Act.put, List.setIfInBounds_toArray, List.set_cons_zero, List.set_cons_succ]
    refine any_takeD 2 12 (.agg #[.int .i64 T0.kind, .bool T0.isB, .string T0.text, .slice X0 n0 c0, .slice Y0 q0 d0]) rfl rfl (by kernel_rfl) (by kernel_rfl) (by kernel_rfl) (by kernel_rfl) (fun _ _ _ h => h) (by rfl) ?_ HSS ?_
    · intro w' hS
      obtain ⟨za, zb⟩ := hS
      have za_0 := za.c0; have za_1 := za.c1; have za_2 := za.c2; have za_3 := za.c3; have za_4 := za.c4
      have zb_0 := zb.c0; have zb_1 := zb.c1; have zb_2 := zb.c2; have zb_3 := zb.c3; have zb_4 := zb.c4
      go_simp
    simp only [Act.put, List.setIfInBounds_toArray, List.set_cons_zero, List.set_cons_succ]
    refine any_callV 1 11 (by kernel_rfl) rfl rfl (by rfl) (fn := 16) (args := #[.agg #[.int .i64 T0.kind, .bool T0.isB, .string T0.text, .slice A4 m4 c4, .slice B4 q4 d4]]) ?_ (check_any T0 _ V1.drew (Vl.up rk0 _ hvc) (by have := HD0.out; omega)) ?_
    · go_simp
    rintro e r1 ⟨rfl, hr1⟩
    have rk1 := extV rk0 hr1
    have HSS : Bx r1 Q0 (.int .i64 T0.kind) (.bool T0.isB) (.string T0.text) (.slice X0 n0 c0) (.slice Y0 q0 d0) ∧ Bx r1 R1 (.int .i64 T0.kind) (.bool T0.isB) (.string T0.text) (.slice A4 m4 c4) (.slice B4 q4 d4) := ⟨HSS.1.below hr1 HSS.1.lt, HSS.2.below hr1 HSS.2.lt⟩
    refine ⟨_, rfl, .inr HSS, ?_⟩
    simp only [Act.put, List.setIfInBounds_toArray, List.set_cons_zero, List.set_cons_succ]
    refine any_callV 3 13 (by kernel_rfl) rfl rfl (by rfl) (fn := 17) (args := #[.agg #[.int .i64 T0.kind, .bool T0.isB, .string T0.text, .slice X0 n0 c0, .slice Y0 q0 d0]]) ?_ (rcheckV T0 _ r1 (Vl.up rk1 _ hvo) (by have := HD0.out; omega)) ?_
    · go_simp
    rintro e r2 ⟨rfl, hr2⟩
    have rk2 := extV rk1 hr2
    have HSS : Bx r2 Q0 (.int .i64 T0.kind) (.bool T0.isB) (.string T0.text) (.slice X0 n0 c0) (.slice Y0 q0 d0) ∧ Bx r2 R1 (.int .i64 T0.kind) (.bool T0.isB) (.string T0.text) (.slice A4 m4 c4) (.slice B4 q4 d4) := ⟨HSS.1.below hr2 HSS.1.lt, HSS.2.below hr2 HSS.2.lt⟩
    refine ⟨_, rfl, .inr HSS, ?_⟩
    simp only [Act.put, List.setIfInBounds_toArray, List.set_cons_zero, List.set_cons_succ]
    refine any_runD 4 14 (.bool true) r2 (by kernel_rfl) rfl rfl (by rfl) ?_ (.inr HSS) ?_
    · obtain ⟨za, zb⟩ := HSS
      have za_0 := za.c0; have za_1 := za.c1; have za_2 := za.c2; have za_3 := za.c3; have za_4 := za.c4
      have zb_0 := zb.c0; have zb_1 := zb.c1; have zb_2 := zb.c2; have zb_3 := zb.c3; have zb_4 := zb.c4
      go_simp
    simp only [Act.put, List.setIfInBounds_toArray, List.set_cons_zero, List.set_cons_succ]
    refine any_runD 5 15 (.bool true) r2 (by kernel_rfl) rfl rfl (by rfl) ?_ (.inr HSS) ?_
    · obtain ⟨za, zb⟩ := HSS
      have za_0 := za.c0; have za_1 := za.c1; have za_2 := za.c2; have za_3 := za.c3; have za_4 := za.c4
      have zb_0 := zb.c0; have zb_1 := zb.c1; have zb_2 := zb.c2; have zb_3 := zb.c3; have zb_4 := zb.c4
      go_simp
    simp only [Act.put, List.setIfInBounds_toArray, List.set_cons_zero, List.set_cons_succ]
    refine any_takeD 6 16 (.agg #[.int .i64 T0.kind, .bool T0.isB, .string T0.text, .slice A4 m4 c4, .slice B4 q4 d4]) rfl rfl (by kernel_rfl) (by kernel_rfl) (by kernel_rfl) (by kernel_rfl) (fun _ _ _ h => h) (by rfl) ?_ HSS ?_
    · intro w' hS
      obtain ⟨za, zb⟩ := hS
      have za_0 := za.c0; have za_1 := za.c1; have za_2 := za.c2; have za_3 := za.c3; have za_4 := za.c4
      have zb_0 := zb.c0; have zb_1 := zb.c1; have zb_2 := zb.c2; have zb_3 := zb.c3; have zb_4 := zb.c4
      go_simp
    simp only [Act.put, List.setIfInBounds_toArray, List.set_cons_zero, List.set_cons_succ]
    refine any_takeD 8 18 (.agg #[.int .i64 T0.kind, .bool T0.isB, .string T0.text, .slice X0 n0 c0, .slice Y0 q0 d0]) rfl rfl (by kernel_rfl) (by kernel_rfl) (by kernel_rfl) (by kernel_rfl) (fun _ _ _ h => h) (by rfl) ?_ HSS ?_
    · intro w' hS
      obtain ⟨za, zb⟩ := hS
      have za_0 := za.c0; have za_1 := za.c1; have za_2 := za.c2; have za_3 := za.c3; have za_4 := za.c4
      have zb_0 := zb.c0; have zb_1 := zb.c1; have zb_2 := zb.c2; have zb_3 := zb.c3; have zb_4 := zb.c4
      go_simp
    simp only [Act.put, List.setIfInBounds_toArray, List.set_cons_zero, List.set_cons_succ]
    refine any_callV 7 17 (by kernel_rfl) rfl rfl (by rfl) (fn := 18) (args := #[.agg #[.int .i64 T0.kind, .bool T0.isB, .string T0.text, .slice A4 m4 c4, .slice B4 q4 d4]]) ?_ (depth_any T0 _ r2 (Vl.up rk2 _ hvc) (by have := HD0.out; omega)) ?_
    · go_simp
    rintro e r3 ⟨rfl, hr3⟩
    have rk3 := extV rk2 hr3
    have HSS : Bx r3 Q0 (.int .i64 T0.kind) (.bool T0.isB) (.string T0.text) (.slice X0 n0 c0) (.slice Y0 q0 d0) ∧ Bx r3 R1 (.int .i64 T0.kind) (.bool T0.isB) (.string T0.text) (.slice A4 m4 c4) (.slice B4 q4 d4) := ⟨HSS.1.below hr3 HSS.1.lt, HSS.2.below hr3 HSS.2.lt⟩
    refine ⟨_, rfl, .inr HSS, ?_⟩
    simp only [Act.put, List.setIfInBounds_toArray, List.set_cons_zero, List.set_cons_succ]
    refine any_callV 9 19 (by kernel_rfl) rfl rfl (by rfl) (fn := 19) (args := #[.agg #[.int .i64 T0.kind, .bool T0.isB, .string T0.text, .slice X0 n0 c0, .slice Y0 q0 d0]]) ?_ (rdepth_any T0 _ r3 (Vl.up rk3 _ hvo) (by have := HD0.out; omega)) ?_
    · go_simp
    rintro e r4 ⟨rfl, hr4⟩
    have rk4 := extV rk3 hr4
    have HSS : Bx r4 Q0 (.int .i64 T0.kind) (.bool T0.isB) (.string T0.text) (.slice X0 n0 c0) (.slice Y0 q0 d0) ∧ Bx r4 R1 (.int .i64 T0.kind) (.bool T0.isB) (.string T0.text) (.slice A4 m4 c4) (.slice B4 q4 d4) := ⟨HSS.1.below hr4 HSS.1.lt, HSS.2.below hr4 HSS.2.lt⟩
    refine ⟨_, rfl, .inr HSS, ?_⟩
    simp only [Act.put, List.setIfInBounds_toArray, List.set_cons_zero, List.set_cons_succ]
    refine any_runD 10 20 (.bool true) r4 (by kernel_rfl) rfl rfl (by rfl) ?_ (.inr HSS) ?_
    · obtain ⟨za, zb⟩ := HSS
      have za_0 := za.c0; have za_1 := za.c1; have za_2 := za.c2; have za_3 := za.c3; have za_4 := za.c4
      have zb_0 := zb.c0; have zb_1 := zb.c1; have zb_2 := zb.c2; have zb_3 := zb.c3; have zb_4 := zb.c4
      go_simp
    simp only [Act.put, List.setIfInBounds_toArray, List.set_cons_zero, List.set_cons_succ]
    refine any_runD 11 21 (.bool true) r4 (by kernel_rfl) rfl rfl (by rfl) ?_ (.inr HSS) ?_
    · obtain ⟨za, zb⟩ := HSS
      have za_0 := za.c0; have za_1 := za.c1; have za_2 := za.c2; have za_3 := za.c3; have za_4 := za.c4
      have zb_0 := zb.c0; have zb_1 := zb.c1; have zb_2 := zb.c2; have zb_3 := zb.c3; have zb_4 := zb.c4
      go_simp
    simp only [Act.put, List.setIfInBounds_toArray, List.set_cons_zero, List.set_cons_succ]
    refine any_runD 12 22 (.bool true) r4 (by kernel_rfl) rfl rfl (by rfl) ?_ (.inr HSS) ?_
    · obtain ⟨za, zb⟩ := HSS
      have za_0 := za.c0; have za_1 := za.c1; have za_2 := za.c2; have za_3 := za.c3; have za_4 := za.c4
      have zb_0 := zb.c0; have zb_1 := zb.c1; have zb_2 := zb.c2; have zb_3 := zb.c3; have zb_4 := zb.c4
      go_simp
    simp only [Act.put, List.setIfInBounds_toArray, List.set_cons_zero, List.set_cons_succ]
    refine any_takeD 13 23 (.agg #[.int .i64 T0.kind, .bool T0.isB, .string T0.text, .slice A4 m4 c4, .slice B4 q4 d4]) rfl rfl (by kernel_rfl) (by kernel_rfl) (by kernel_rfl) (by kernel_rfl) (fun _ _ _ h => h) (by rfl) ?_ HSS ?_
    · intro w' hS
      obtain ⟨za, zb⟩ := hS
      have za_0 := za.c0; have za_1 := za.c1; have za_2 := za.c2; have za_3 := za.c3; have za_4 := za.c4
      have zb_0 := zb.c0; have zb_1 := zb.c1; have zb_2 := zb.c2; have zb_3 := zb.c3; have zb_4 := zb.c4
      go_simp
    simp only [Act.put, List.setIfInBounds_toArray, List.set_cons_zero, List.set_cons_succ]
    refine any_runD 14 24 (.agg #[.int .i64 T0.kind, .bool T0.isB, .string T0.text, .slice X0 n0 c0, .slice Y0 q0 d0]) r4 (by kernel_rfl) rfl rfl (by rfl) ?_ (.inr HSS) ?_
    · obtain ⟨za, zb⟩ := HSS
      have za_0 := za.c0; have za_1 := za.c1; have za_2 := za.c2; have za_3 := za.c3; have za_4 := za.c4
      have zb_0 := zb.c0; have zb_1 := zb.c1; have zb_2 := zb.c2; have zb_3 := zb.c3; have zb_4 := zb.c4
      go_simp
    simp only [Act.put, List.setIfInBounds_toArray, List.set_cons_zero, List.set_cons_succ]
    refine any_callV 15 25 (by kernel_rfl) rfl rfl (by rfl) (fn := 20) (args := #[.agg #[.int .i64 T0.kind, .bool T0.isB, .string T0.text, .slice A4 m4 c4, .slice B4 q4 d4], .agg #[.int .i64 T0.kind, .bool T0.isB, .string T0.text, .slice X0 n0 c0, .slice Y0 q0 d0]]) ?_ (requal_any T0 T0 _ _ r4 (Vl.up rk4 _ hvc) (Vl.up rk4 _ hvo)) ?_
    · go_simp
    rintro e r5 ⟨rfl, hr5⟩
    have rk5 := extV rk4 hr5
    rw [alk_self]
    have HSS : Bx r5 Q0 (.int .i64 T0.kind) (.bool T0.isB) (.string T0.text) (.slice X0 n0 c0) (.slice Y0 q0 d0) ∧ Bx r5 R1 (.int .i64 T0.kind) (.bool T0.isB) (.string T0.text) (.slice A4 m4 c4) (.slice B4 q4 d4) := ⟨HSS.1.below hr5 HSS.1.lt, HSS.2.below hr5 HSS.2.lt⟩
    refine ⟨_, rfl, .inr HSS, ?_⟩
    simp only [Act.put, List.setIfInBounds_toArray, List.set_cons_zero, List.set_cons_succ]
    refine any_runD 16 26 (.bool true) r5 (by kernel_rfl) rfl rfl (by rfl) ?_ (.inr HSS) ?_
    · obtain ⟨za, zb⟩ := HSS
      have za_0 := za.c0; have za_1 := za.c1; have za_2 := za.c2; have za_3 := za.c3; have za_4 := za.c4
      have zb_0 := zb.c0; have zb_1 := zb.c1; have zb_2 := zb.c2; have zb_3 := zb.c3; have zb_4 := zb.c4
      go_simp
    simp only [Act.put, List.setIfInBounds_toArray, List.set_cons_zero, List.set_cons_succ]
    refine any_runD 17 27 (.bool true) r5 (by kernel_rfl) rfl rfl (by rfl) ?_ (.inr HSS) ?_
    · obtain ⟨za, zb⟩ := HSS
      have za_0 := za.c0; have za_1 := za.c1; have za_2 := za.c2; have za_3 := za.c3; have za_4 := za.c4
      have zb_0 := zb.c0; have zb_1 := zb.c1; have zb_2 := zb.c2; have zb_3 := zb.c3; have zb_4 := zb.c4
      go_simp
    simp only [Act.put, List.setIfInBounds_toArray, List.set_cons_zero, List.set_cons_succ]
    refine any_callV 18 28 (by kernel_rfl) rfl rfl (by rfl) (fn := 14) (args := #[]) ?_ (awake_any r5 (TB.out r5 (extV BV1.out rk5))) ?_
    · go_simp
    rintro e r6 ⟨rfl, hr6⟩
    have rk6 := extV rk5 hr6
    have HSS : Bx r6 Q0 (.int .i64 T0.kind) (.bool T0.isB) (.string T0.text) (.slice X0 n0 c0) (.slice Y0 q0 d0) ∧ Bx r6 R1 (.int .i64 T0.kind) (.bool T0.isB) (.string T0.text) (.slice A4 m4 c4) (.slice B4 q4 d4) := ⟨HSS.1.below hr6 HSS.1.lt, HSS.2.below hr6 HSS.2.lt⟩
    refine ⟨_, rfl, .inr HSS, ?_⟩
    simp only [Act.put, List.setIfInBounds_toArray, List.set_cons_zero, List.set_cons_succ]
    refine any_runD 19 29 (.bool true) r6 (by kernel_rfl) rfl rfl (by rfl) ?_ (.inr HSS) ?_
    · obtain ⟨za, zb⟩ := HSS
      have za_0 := za.c0; have za_1 := za.c1; have za_2 := za.c2; have za_3 := za.c3; have za_4 := za.c4
      have zb_0 := zb.c0; have zb_1 := zb.c1; have zb_2 := zb.c2; have zb_3 := zb.c3; have zb_4 := zb.c4
      go_simp
    simp only [Act.put, List.setIfInBounds_toArray, List.set_cons_zero, List.set_cons_succ]
    refine any_runD 20 2 (.bool true) r6 (by kernel_rfl) rfl rfl (by rfl) ?_ (.inr HSS) ?_
    · obtain ⟨za, zb⟩ := HSS
      have za_0 := za.c0; have za_1 := za.c1; have za_2 := za.c2; have za_3 := za.c3; have za_4 := za.c4
      have zb_0 := zb.c0; have zb_1 := zb.c1; have zb_2 := zb.c2; have zb_3 := zb.c3; have zb_4 := zb.c4
      go_simp
    simp only [Act.put, List.setIfInBounds_toArray, List.set_cons_zero, List.set_cons_succ]
    refine any_done (by kernel_rfl) ?_ _
    refine calm_normal ?_
    have BE := Lib.hid (extV BV1.out rk6)
    go_wp2_with fail
    go_ret
    exact ⟨rfl, BE.out⟩
end Go.Proofs.YtlgeibaejeiemaaDoor
