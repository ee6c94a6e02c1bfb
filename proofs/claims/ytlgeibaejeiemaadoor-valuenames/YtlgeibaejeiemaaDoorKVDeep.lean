/-
  The walk of ValueDeep.
-/
import Derived.Test.YtlgeibaejeiemaaDoorVxa
namespace Go.Proofs.YtlgeibaejeiemaaDoor
set_option linter.unusedVariables false
set_option linter.unusedSimpArgs false
open Go.RowKit
open Wd We Vt

set_option maxRecDepth 100000 in
set_option maxHeartbeats 16000000 in
theorem walk_ValueDeep (a0 : Int) (a1 : Int) (w : World) (w0 : (Lit.int .i64 a0).wf = true) (w1 : (Lit.int .i64 a1).wf = true) (tab : It.Tab w) :
    Calls Tryd.prog 10 #[.int .i64 a0, .int .i64 a1] w fun e w' => e = .returned (.bool true) ∧ Below w.heap.size w w' := by
  have hr0 := i64_of w0
  have hr1 := i64_of w1
  have TB := Lib.hid (fun (w' : World) (h : Below w.heap.size w w') => tab.below h)
  have hk0 := Int.emod_nonneg a0 (b := 201) (by omega)
  have hk1 := Int.emod_lt_of_pos a0 (b := 201) (by omega)
  have hm0 := Int.emod_nonneg a1 (b := 101) (by omega)
  have hm1 := Int.emod_lt_of_pos a1 (b := 101) (by omega)
  obtain ⟨k, hk⟩ : ∃ k : Nat, a0 % 201 = (k : Int) := ⟨(a0 % 201).toNat, by omega⟩
  obtain ⟨m, hm⟩ : ∃ m : Nat, a1 % 101 = (m : Int) := ⟨(a1 % 101).toNat, by omega⟩
  have CA := Lib.hid (bring_at a0 201 (by omega) (by omega) (by omega) (by omega) w hk)
  have CB := Lib.hid (bring_at a1 101 (by omega) (by omega) (by omega) (by omega) w hm)
  have hk2 : k ≤ 200 := by omega
  have hm2 : m ≤ 100 := by omega
  clear tab hk0 hk1 hm0 hm1 hk hm w0 w1 hr0 hr1
  go_enter Tryd.func10, Tryd.ntmps10
  go_wp2_with fail
  refine CA.out.mono ?_
  rintro e w1 ⟨rfl, rfl⟩
  go_wp2_with fail
  refine CB.out.mono ?_
  rintro e w1 ⟨rfl, rfl⟩
  go_wp2_with fail
  refine (bool_any true _).mono ?_
  rintro e w2 ⟨rfl, hb2⟩
  have B2 := Lib.hid hb2
  clear hb2
  go_wp2_with fail
  refine (nested_any (.mk 1 true ⟨#[]⟩ [] []) _ (k : Int) (by omega) w2 (vl_plain w2 (k := 1) true (s := ⟨#[]⟩) ⟨by omega, by omega⟩ (by decide))).mono ?_
  rintro e w3 ⟨u, rfl, hb3, hu⟩
  rw [Int.toNat_natCast] at hu
  obtain ⟨TT, hTT⟩ : ∃ t, nestT (.mk 1 true ⟨#[]⟩ [] []) k = t := ⟨_, rfl⟩
  rw [hTT] at hu
  have hdk : dep TT = 1 + k := by rw [← hTT, dep_nest, dep_plain]
  obtain ⟨X3, n3, c3, Y3, q3, d3, rfl, _⟩ := hu.open_
  have B3 := Lib.hid (extV B2.out hb3)
  have U3 := Lib.hid hu
  have HTT := Lib.hid hTT
  clear hb3 hu hTT
  obtain ⟨R1, hR1⟩ : ∃ R, w3.heap.size = R := ⟨_, rfl⟩
  obtain ⟨U1, hU1⟩ : ∃ U, w3.alloc (.cells #[.int .i64 0, .bool false, .string ⟨#[]⟩, .slice none 0 0, .slice none 0 0] 25) = U := ⟨_, rfl⟩
  obtain ⟨nb, nb2⟩ := newbox hR1 hU1
  obtain ⟨nb3, nb4, nb5⟩ := nb2 (.int .i64 TT.kind) (.bool TT.isB) (.string TT.text) (.slice X3 n3 c3) (.slice Y3 q3 d3)
  have e0 := nb.c0; have e1 := nb.c1; have e2 := nb.c2; have e3 := nb.c3; have e4 := nb.c4
  have f0 := nb.fz 0; have f1 := nb.fz 1; have f2 := nb.fz 2; have f3 := nb.fz 3; have f4 := nb.fz 4
  obtain ⟨V1, hV1⟩ : ∃ V, put5 U1 R1 (.int .i64 TT.kind) (.bool TT.isB) (.string TT.text) (.slice X3 n3 c3) (.slice Y3 q3 d3) = V := ⟨_, rfl⟩
  rw [hV1] at nb3 nb4 nb5
  have HV1 := Lib.hid hV1
  have HR1 := Lib.hid hR1
  have N1 := Lib.hid nb3
  have NB1 := Lib.hid nb4
  have NS1 := Lib.hid nb5
  clear hV1 nb nb2 nb3 nb4 nb5
  go_upto_region 3 with fail
  rw [show ((((U1.setCell ⟨R1, 0, none⟩ (.int .i64 TT.kind)).setCell ⟨R1, 1, none⟩ (.bool TT.isB)).setCell ⟨R1, 2, none⟩ (.string TT.text)).setCell ⟨R1, 3, none⟩ (.slice X3 n3 c3)).setCell ⟨R1, 4, none⟩ (.slice Y3 q3 d3) = V1 from HV1.out]
  clear e0 e1 e2 e3 e4 f0 f1 f2 f3 f4 hU1
  have BV := Lib.hid (extV B3.out NB1.out)
  have UV := Lib.hid (Vl.up NB1.out _ U3.out)
  clear hR1
  have HSS : Bx V1.drew R1 (.int .i64 TT.kind) (.bool TT.isB) (.string TT.text) (.slice X3 n3 c3) (.slice Y3 q3 d3) := Bx.same N1.out rfl
  refine region_calm (fun w' => Bx w' R1 (.int .i64 TT.kind) (.bool TT.isB) (.string TT.text) (.slice X3 n3 c3) (.slice Y3 q3 d3)) [1, 3, 7, 8, 9] (by kernel_rfl) ?_
  have hd0 : Below V1.heap.size V1 V1.drew := ⟨rfl, rfl, rfl, Nat.le_refl _, fun _ _ => rfl⟩
  refine any_takeD 1 21 (.agg #[.int .i64 TT.kind, .bool TT.isB, .string TT.text, .slice X3 n3 c3, .slice Y3 q3 d3]) rfl rfl (by kernel_rfl) (by kernel_rfl) (by kernel_rfl) (by kernel_rfl) (fun _ _ _ h => h) (by rfl) ?_ HSS ?_
  · intro w' hS
    have z0 := hS.c0; have z1 := hS.c1; have z2 := hS.c2; have z3 := hS.c3; have z4 := hS.c4
    go_simp
  simp only [Act.put, List.setIfInBounds_toArray, List.set_cons_zero, List.set_cons_succ]
  refine any_takeD 3 23 (.int .i64 (m : Int)) rfl rfl (by kernel_rfl) (by kernel_rfl) (by kernel_rfl) (by kernel_rfl) (fun _ _ _ h => h) (by rfl) ?_ HSS ?_
  · intro w' hS
    go_simp
  simp only [Act.put, List.setIfInBounds_toArray, List.set_cons_zero, List.set_cons_succ]
  obtain ⟨MM, hMM⟩ : ∃ t, nestT (.mk 3 false ⟨#[122]⟩ [] []) m = t := ⟨_, rfl⟩
  have hdm : dep MM = 1 + m := by rw [← hMM, dep_nest, dep_plain]
  have CN : Hid (∀ w', Calls Tryd.prog 35 #[textZ, .int .i64 (m : Int)] w' fun e w'' => ∃ u, e = .returned u ∧ Below w'.heap.size w' w'' ∧ Vl w'' u MM) := Lib.hid (fun w' => by
    have h := nested_any (.mk 3 false ⟨#[122]⟩ [] []) _ (m : Int) (by omega) w' (vl_plain w' (k := 3) false (s := ⟨#[122]⟩) ⟨by omega, by omega⟩ (by decide))
    rw [Int.toNat_natCast, hMM] at h
    exact h)
  have HMM := Lib.hid hMM
  have HDM := Lib.hid hdm
  have HDK := Lib.hid hdk
  clear hMM hdm hdk
  have hJ0 : Bx V1.drew R1 (.int .i64 TT.kind) (.bool TT.isB) (.string TT.text) (.slice X3 n3 c3) (.slice Y3 q3 d3) ∧ ∃ s20 s22 s24 s25 s26 s8, ({ tmps := #[.int .i64 a0, .int .i64 a1, undef, undef, .bool false, .int .i64 (k : Int), .int .i64 (m : Int), .pointer (some ⟨R1, 0, none⟩), undef, undef, undef, undef, .int .i64 a0, .int .i64 (k : Int), .int .i64 a1, .int .i64 (m : Int), .agg #[.int .i64 1, .bool true, .string ⟨#[]⟩, .slice none 0 0, .slice none 0 0], .int .i64 (k : Int), .agg #[.int .i64 TT.kind, .bool TT.isB, .string TT.text, .slice X3 n3 c3, .slice Y3 q3 d3], undef, undef, .agg #[.int .i64 TT.kind, .bool TT.isB, .string TT.text, .slice X3 n3 c3, .slice Y3 q3 d3], undef, .int .i64 (m : Int), undef, undef, undef, undef, undef, undef, undef, undef, undef, undef, undef, undef, undef, undef, undef, undef, undef, undef, undef, undef, undef, undef, undef, undef, undef, undef, undef, undef, undef, undef, undef, undef, undef, undef, undef, undef, undef, undef, undef, undef, undef, undef, undef, undef, undef, undef], defers := [] } : Act) = { tmps := #[.int .i64 a0, .int .i64 a1, undef, undef, .bool false, .int .i64 (k : Int), .int .i64 (m : Int), .pointer (some ⟨R1, 0, none⟩), s8, undef, undef, undef, .int .i64 a0, .int .i64 (k : Int), .int .i64 a1, .int .i64 (m : Int), .agg #[.int .i64 1, .bool true, .string ⟨#[]⟩, .slice none 0 0, .slice none 0 0], .int .i64 (k : Int), .agg #[.int .i64 TT.kind, .bool TT.isB, .string TT.text, .slice X3 n3 c3, .slice Y3 q3 d3], undef, s20, .agg #[.int .i64 TT.kind, .bool TT.isB, .string TT.text, .slice X3 n3 c3, .slice Y3 q3 d3], s22, .int .i64 (m : Int), s24, s25, s26, undef, undef, undef, undef, undef, undef, undef, undef, undef, undef, undef, undef, undef, undef, undef, undef, undef, undef, undef, undef, undef, undef, undef, undef, undef, undef, undef, undef, undef, undef, undef, undef, undef, undef, undef, undef, undef, undef, undef, undef, undef, undef, undef], defers := [] } ∧ DF V1 V1.drew TT MM 0 false false s20 s22 s24 s25 s26 s8 := ⟨HSS, undef, undef, undef, undef, undef, undef, rfl, ⟨hd0, (fun h => by cases h), (fun h => absurd h (by omega)), (fun h => absurd h (by omega)), (fun h => absurd h (by omega)), (fun h => absurd h (by omega)), (fun h => by cases h)⟩⟩
  refine tri_inv (n := 5) (fun p x y a w => Bx w R1 (.int .i64 TT.kind) (.bool TT.isB) (.string TT.text) (.slice X3 n3 c3) (.slice Y3 q3 d3) ∧ ∃ s20 s22 s24 s25 s26 s8, a = { tmps := #[.int .i64 a0, .int .i64 a1, undef, undef, .bool false, .int .i64 (k : Int), .int .i64 (m : Int), .pointer (some ⟨R1, 0, none⟩), s8, undef, undef, undef, .int .i64 a0, .int .i64 (k : Int), .int .i64 a1, .int .i64 (m : Int), .agg #[.int .i64 1, .bool true, .string ⟨#[]⟩, .slice none 0 0, .slice none 0 0], .int .i64 (k : Int), .agg #[.int .i64 TT.kind, .bool TT.isB, .string TT.text, .slice X3 n3 c3, .slice Y3 q3 d3], undef, s20, .agg #[.int .i64 TT.kind, .bool TT.isB, .string TT.text, .slice X3 n3 c3, .slice Y3 q3 d3], s22, .int .i64 (m : Int), s24, s25, s26, undef, undef, undef, undef, undef, undef, undef, undef, undef, undef, undef, undef, undef, undef, undef, undef, undef, undef, undef, undef, undef, undef, undef, undef, undef, undef, undef, undef, undef, undef, undef, undef, undef, undef, undef, undef, undef, undef, undef, undef, undef, undef, undef], defers := [] } ∧ DF V1 w TT MM p x y s20 s22 s24 s25 s26 s8) (by kernel_rfl) (by kernel_rfl) (by kernel_rfl) (by kernel_rfl) (by kernel_rfl) (by kernel_rfl) (by kernel_rfl) (by kernel_rfl) (by kernel_rfl) (by kernel_rfl) (by kernel_rfl) (by kernel_rfl) (by kernel_rfl) (by kernel_rfl) (by kernel_rfl) (by kernel_rfl) ?_ ?_ ?_ ?_ ?_ ?_ ?_ ?_ _ _ hJ0
  · rintro p y a w hp ⟨hS, s20, s22, s24, s25, s26, s8, rfl, hF⟩
    obtain ⟨g, hg⟩ : ∃ g, w.heap.size = g := ⟨_, rfl⟩
    obtain ⟨W9, hW9⟩ : ∃ W, w.alloc (.cells #[.string ⟨#[120]⟩, .string ⟨#[121]⟩] 9) = W := ⟨_, rfl⟩
    have hb : Below w.heap.size w W9 := by rw [← hW9]; exact below_allocV w _
    have hn : Nm W9 (some ⟨g, 0, none⟩) 2 2 [⟨#[120]⟩, ⟨#[121]⟩] := Nm.two_at (by rw [← hW9, ← hg]; exact heap_alloc_new w _)
    refine op_run 0 20 (.slice (some ⟨g, 0, none⟩) 2 2) W9 rfl rfl (by rfl) ?_ ?_
    · rw [← hg, ← hW9]; go_simp
    · exact ⟨hS.below hb hS.lt, hS.below hb hS.lt, _, _, _, _, _, _, rfl, hF.setX hb hn⟩
  · rintro p x a w hp ⟨hS, s20, s22, s24, s25, s26, s8, rfl, hF⟩
    obtain ⟨W9, hW9⟩ : ∃ W, w.alloc (.cells #[.int .i64 0, .bool false, .string ⟨#[]⟩, .slice none 0 0, .slice none 0 0] 25) = W := ⟨_, rfl⟩
    have hb : Below w.heap.size w W9 := by rw [← hW9]; exact below_allocV w _
    have hn : Bx W9 w.heap.size (.int .i64 0) (.bool false) (.string ⟨#[]⟩) (.slice none 0 0) (.slice none 0 0) := by rw [← hW9]; exact heap_alloc_new w _
    refine op_run 10 8 (.pointer (some ⟨w.heap.size, 0, none⟩)) W9 rfl rfl (by rfl) ?_ ?_
    · rw [← hW9]; go_simp
    · exact ⟨hS.below hb hS.lt, hS.below hb hS.lt, _, _, _, _, _, _, rfl, hF.setY hb hn⟩
  · rintro x y a w ⟨hS, s20, s22, s24, s25, s26, s8, rfl, hF⟩
    refine op_call 2 22 rfl rfl (by rfl) (fn := 32) (args := #[.string ⟨#[122]⟩]) ?_ (text_any ⟨#[122]⟩ w) ?_
    · go_simp
    · rintro e w' ⟨rfl, hb⟩
      exact ⟨_, rfl, hS.below hb hS.lt, hS.below hb hS.lt, _, _, _, _, _, _, rfl, hF.set1 hb⟩
  · rintro x y a w ⟨hS, s20, s22, s24, s25, s26, s8, rfl, hF⟩
    obtain rfl := hF.c1 (by omega)
    refine op_call 4 24 rfl rfl (by rfl) (fn := 35) (args := #[textZ, .int .i64 (m : Int)]) ?_ (CN.out w) ?_
    · go_simp
    · rintro e w' ⟨u, rfl, hb, hu⟩
      exact ⟨_, rfl, hS.below hb hS.lt, hS.below hb hS.lt, _, _, _, _, _, _, rfl, hF.set2 hb hu⟩
  · rintro x y a w ⟨hS, s20, s22, s24, s25, s26, s8, rfl, hF⟩
    have hu := hF.c2 (by omega)
    obtain ⟨X1, n1, c1, Y1, q1, d1, rfl, _⟩ := hu.open_
    obtain ⟨g, hg⟩ : ∃ g, w.heap.size = g := ⟨_, rfl⟩
    obtain ⟨W9, hW9⟩ : ∃ W, w.alloc (.cells #[.int .i64 TT.kind, .bool TT.isB, .string TT.text, .slice X3 n3 c3, .slice Y3 q3 d3, .int .i64 MM.kind, .bool MM.isB, .string MM.text, .slice X1 n1 c1, .slice Y1 q1 d1] 25) = W := ⟨_, rfl⟩
    have hb : Below w.heap.size w W9 := by rw [← hW9]; exact below_allocV w _
    have hvl : VL W9 (some ⟨g, 0, none⟩) 2 2 [TT, MM] := VL.two_at (by rw [← hW9, ← hg]; exact heap_alloc_new w _) (Vl.up (extV hF.up hb) _ UV.out) (Vl.up hb _ hu)
    refine op_run 5 25 (.slice (some ⟨g, 0, none⟩) 2 2) W9 rfl rfl (by rfl) ?_ ?_
    · rw [← hg, ← hW9]; go_simp
    · exact ⟨hS.below hb hS.lt, hS.below hb hS.lt, _, _, _, _, _, _, rfl, hF.set3 hb hvl⟩
  · rintro y a w ⟨hS, s20, s22, s24, s25, s26, s8, rfl, hF⟩
    obtain ⟨g1, rfl, hn⟩ := hF.x1 rfl
    obtain ⟨g2, rfl, hvl⟩ := hF.c3 (by omega)
    refine op_call 6 26 rfl rfl (by rfl) (fn := 27) (args := #[.slice (some ⟨g1, 0, none⟩) 2 2, .slice (some ⟨g2, 0, none⟩) 2 2]) ?_ (vmake_any _ _ _ _ _ _ _ _ w hvl hn) ?_
    · go_simp
    · rintro e w' ⟨hb, hm⟩
      rw [if_pos (show [(⟨#[120]⟩ : ByteArray), ⟨#[121]⟩].length = [TT, MM].length from rfl)] at hm
      obtain ⟨A, m', c, B, q, d, rfl, ho⟩ := hm
      exact ⟨_, rfl, hS.below hb hS.lt, hS.below hb hS.lt, _, _, _, _, _, _, rfl, hF.set4 hb ho⟩
  · rintro a w0 ⟨hS, s20, s22, s24, s25, s26, s8, rfl, hF⟩
    obtain ⟨A6, m6, c6, B6, q6, d6, S6, rfl, ho, hs1, hs2⟩ := hF.c4 (by omega)
    obtain ⟨g8, rfl, hx8, hg8⟩ := hF.y1 rfl
    have hns : ¬ S6 g8 := hs2 rfl g8 rfl
    refine any_takeD 7 19 (.tuple #[.agg #[.int .i64 5, .bool false, .string ⟨#[]⟩, .slice A6 m6 c6, .slice B6 q6 d6], .int .i64 0]) rfl rfl (by kernel_rfl) (by kernel_rfl) (by kernel_rfl) (by kernel_rfl) (fun _ _ _ h => h) (by rfl) ?_ hS ?_
    · intro w' hS'
      go_simp
    simp only [Act.put, List.setIfInBounds_toArray, List.set_cons_zero, List.set_cons_succ]
    refine any_takeD 8 27 (.agg #[.int .i64 5, .bool false, .string ⟨#[]⟩, .slice A6 m6 c6, .slice B6 q6 d6]) rfl rfl (by kernel_rfl) (by kernel_rfl) (by kernel_rfl) (by kernel_rfl) (fun _ _ _ h => h) (by rfl) ?_ hS ?_
    · intro w' hS'
      go_simp
    simp only [Act.put, List.setIfInBounds_toArray, List.set_cons_zero, List.set_cons_succ]
    refine any_takeD 9 28 (.int .i64 0) rfl rfl (by kernel_rfl) (by kernel_rfl) (by kernel_rfl) (by kernel_rfl) (fun _ _ _ h => h) (by rfl) ?_ hS ?_
    · intro w' hS'
      go_simp
    simp only [Act.put, List.setIfInBounds_toArray, List.set_cons_zero, List.set_cons_succ]
    obtain ⟨W9, rfl⟩ : ∃ x, x = w0 := ⟨w0, rfl⟩
    have hS9 := hS
    have hup := hF.up
    have z8 : R1 < V1.heap.size := N1.out.lt
    have hne : R1 ≠ g8 := by omega
    have e0 := hx8.c0; have f0 := hx8.fz 0; have e1 := hx8.c1; have f1 := hx8.fz 1; have e2 := hx8.c2; have f2 := hx8.fz 2; have e3 := hx8.c3; have f3 := hx8.fz 3; have e4 := hx8.c4; have f4 := hx8.fz 4
    have hq9 : put5 W9 g8 (.int .i64 5) (.bool false) (.string ⟨#[]⟩) (.slice A6 m6 c6) (.slice B6 q6 d6) = ((((W9.setCell ⟨g8, 0, none⟩ (.int .i64 5)).setCell ⟨g8, 1, none⟩ (.bool false)).setCell ⟨g8, 2, none⟩ (.string ⟨#[]⟩)).setCell ⟨g8, 3, none⟩ (.slice A6 m6 c6)).setCell ⟨g8, 4, none⟩ (.slice B6 q6 d6) := rfl
    have hk9 : ∀ z, z ≠ g8 → (put5 W9 g8 (.int .i64 5) (.bool false) (.string ⟨#[]⟩) (.slice A6 m6 c6) (.slice B6 q6 d6)).heap[z]? = W9.heap[z]? := fun z hz => put5_heap z hz
    have hx9 : Bx (put5 W9 g8 (.int .i64 5) (.bool false) (.string ⟨#[]⟩) (.slice A6 m6 c6) (.slice B6 q6 d6)) g8 (.int .i64 5) (.bool false) (.string ⟨#[]⟩) (.slice A6 m6 c6) (.slice B6 q6 d6) := put5_bx hx8
    have hL9 : Below V1.heap.size V1 (put5 W9 g8 (.int .i64 5) (.bool false) (.string ⟨#[]⟩) (.slice A6 m6 c6) (.slice B6 q6 d6)) := put5_below hup hg8
    have hS10 : Bx (put5 W9 g8 (.int .i64 5) (.bool false) (.string ⟨#[]⟩) (.slice A6 m6 c6) (.slice B6 q6 d6)) R1 (.int .i64 TT.kind) (.bool TT.isB) (.string TT.text) (.slice X3 n3 c3) (.slice Y3 q3 d3) := hS9.same (hk9 R1 hne)
    rw [hq9] at hS10
    refine any_run0 11 (((((W9.setCell ⟨g8, 0, none⟩ (.int .i64 5)).setCell ⟨g8, 1, none⟩ (.bool false)).setCell ⟨g8, 2, none⟩ (.string ⟨#[]⟩)).setCell ⟨g8, 3, none⟩ (.slice A6 m6 c6)).setCell ⟨g8, 4, none⟩ (.slice B6 q6 d6)) (by kernel_rfl) rfl rfl (by rfl) ?_ (.inr hS10) ?_
    · go_simp
    rw [← hq9] at hS10 ⊢
    clear hq9
    obtain ⟨wE, hwE⟩ : ∃ W, put5 W9 g8 (.int .i64 5) (.bool false) (.string ⟨#[]⟩) (.slice A6 m6 c6) (.slice B6 q6 d6) = W := ⟨_, rfl⟩
    rw [hwE] at hk9 hx9 hL9 hS10 ⊢
    refine any_runD 12 9 (.int .i64 0) wE (by kernel_rfl) rfl rfl (by rfl) ?_ (.inr hS10) ?_
    · go_simp
    simp only [Act.put, List.setIfInBounds_toArray, List.set_cons_zero, List.set_cons_succ]
    refine any_done (by kernel_rfl) ?_ _
    refine calm_normal ?_
    have VOE := Lib.hid ((ho.kept _ (fun z hz => hk9 z (fun e => hns (by rw [← e]; exact hz)))).vl _)
    have BE := Lib.hid (extV BV.out hL9)
    have VTE := Lib.hid (Vl.up hL9 _ UV.out)
    have XR := Lib.hid hS10
    have X8 := Lib.hid hx9
    have HMT : Hid (may TT = true) := Lib.hid (by rw [← HTT.out]; exact may_nest (by rw [may_mk]; rfl) k)
    have HMM' : Hid (may MM = true) := Lib.hid (by rw [← HMM.out]; exact may_nest (by rw [may_mk]; rfl) m)
    have HMO : Hid (may (objD TT MM) = true) := Lib.hid (by unfold objD; rw [may_mk]; simp [HMT.out, HMM'.out]; rfl)
    clear e0 e1 e2 e3 e4 f0 f1 f2 f3 f4 hwE hk9 hL9 hS9 hx8 hns ho hS HSS hd0
    have e10 := hS10.c0; have e11 := hS10.c1; have e12 := hS10.c2; have e13 := hS10.c3; have e14 := hS10.c4
    clear hS10 hx9 hF
    by_cases hkm : k < m
    · have k1 : (k : Int) < (m : Int) := by omega
      have k2 : max (k : Int) (m : Int) = (m : Int) := by omega
      have k3 : ¬ (128 : Int) < (k : Int) + 1 := by omega
      have k4 : ¬ (128 : Int) < (m : Int) + 2 := by omega
      have hdo : (dep (objD TT MM) : Int) = (m : Int) + 2 := by unfold objD; rw [dep_mk, depL_cons, depL_cons, depL_nil, HDK.out, HDM.out]; omega
      have hc1 : chk TT = 0 := by rw [chk_may HMT.out, HDK.out]; first | rw [if_pos (by omega)] | rw [if_neg (by omega)]
      have hc2 : chk (objD TT MM) = 0 := by rw [chk_may HMO.out]; first | rw [if_pos (by omega)] | rw [if_neg (by omega)]
      have hd9 : dep (objD TT MM) ≤ 1000000 := by omega
      have HDO := Lib.hid hdo
      have HC1 := Lib.hid hc1
      have HC2 := Lib.hid hc2
      have HD9 := Lib.hid hd9
      clear hdo hc1 hc2 hd9
      go_wp2_with fail
      refine (depth_any TT _ wE VTE.out (by rw [HDK.out]; omega)).mono ?_
      rintro e w5 ⟨rfl, hb5⟩
      rw [HDK.out, show ((1 + k : Nat) : Int) = (k : Int) + 1 by omega]
      have BE5 := Lib.hid (extV BE.out hb5)
      have n1 := XR.out.below hb5 XR.out.lt
      have n8 := X8.out.below hb5 X8.out.lt
      have N15 := Lib.hid n1
      have N85 := Lib.hid n8
      have VO5 := Lib.hid (Vl.up hb5 _ VOE.out)
      have VTQ := Lib.hid (Vl.up hb5 _ VTE.out)
      clear hb5 n1 e10 e11 e12 e13 e14
      have e20 := n8.c0; have e21 := n8.c1; have e22 := n8.c2; have e23 := n8.c3; have e24 := n8.c4
      clear n8
      go_wp2_with fail
      refine (depth_any (objD TT MM) _ w5 VO5.out HD9.out).mono ?_
      rintro e w6 ⟨rfl, hb6⟩
      rw [HDO.out]
      have BE6 := Lib.hid (extV BE5.out hb6)
      have n1 := N15.out.below hb6 N15.out.lt
      have N86 := Lib.hid (N85.out.below hb6 N85.out.lt)
      have VO6 := Lib.hid (Vl.up hb6 _ VO5.out)
      have VT6 := Lib.hid (Vl.up hb6 _ VTQ.out)
      clear hb6 e20 e21 e22 e23 e24
      have e10 := n1.c0; have e11 := n1.c1; have e12 := n1.c2; have e13 := n1.c3; have e14 := n1.c4
      clear n1
      go_wp2_with fail
      refine (check_any TT _ w6 VT6.out (by rw [HDK.out]; omega)).mono ?_
      rintro e w7 ⟨rfl, hb7⟩
      rw [HC1.out]
      have BE7 := Lib.hid (extV BE6.out hb7)
      have n8 := N86.out.below hb7 N86.out.lt
      have VO7 := Lib.hid (Vl.up hb7 _ VO6.out)
      clear hb7 e10 e11 e12 e13 e14
      have e20 := n8.c0; have e21 := n8.c1; have e22 := n8.c2; have e23 := n8.c3; have e24 := n8.c4
      clear n8
      go_wp2_with fail
      refine (check_any (objD TT MM) _ w7 VO7.out HD9.out).mono ?_
      rintro e w8 ⟨rfl, hb8⟩
      rw [HC2.out]
      have BE8 := Lib.hid (extV BE7.out hb8)
      clear hb8 e20 e21 e22 e23 e24
      go_wp2_with fail
      refine (awake_any _ (TB.out _ BE8.out)).mono ?_
      rintro e wz ⟨rfl, hbz⟩
      have BZ := Lib.hid (extV BE8.out hbz)
      clear hbz
      go_wp2_with fail
      go_ret
      exact ⟨rfl, BZ.out⟩
    · have k1 : ¬ (k : Int) < (m : Int) := by omega
      have k2 : max (k : Int) (m : Int) = (k : Int) := by omega
      by_cases h6 : k ≤ 126
      · have k3 : ¬ (128 : Int) < (k : Int) + 1 := by omega
        have k4 : ¬ (128 : Int) < (k : Int) + 2 := by omega
        have hdo : (dep (objD TT MM) : Int) = (k : Int) + 2 := by unfold objD; rw [dep_mk, depL_cons, depL_cons, depL_nil, HDK.out, HDM.out]; omega
        have hc1 : chk TT = 0 := by rw [chk_may HMT.out, HDK.out]; first | rw [if_pos (by omega)] | rw [if_neg (by omega)]
        have hc2 : chk (objD TT MM) = 0 := by rw [chk_may HMO.out]; first | rw [if_pos (by omega)] | rw [if_neg (by omega)]
        have hd9 : dep (objD TT MM) ≤ 1000000 := by omega
        have HDO := Lib.hid hdo
        have HC1 := Lib.hid hc1
        have HC2 := Lib.hid hc2
        have HD9 := Lib.hid hd9
        clear hdo hc1 hc2 hd9
        go_wp2_with fail
        refine (depth_any TT _ wE VTE.out (by rw [HDK.out]; omega)).mono ?_
        rintro e w5 ⟨rfl, hb5⟩
        rw [HDK.out, show ((1 + k : Nat) : Int) = (k : Int) + 1 by omega]
        have BE5 := Lib.hid (extV BE.out hb5)
        have n1 := XR.out.below hb5 XR.out.lt
        have n8 := X8.out.below hb5 X8.out.lt
        have N15 := Lib.hid n1
        have N85 := Lib.hid n8
        have VO5 := Lib.hid (Vl.up hb5 _ VOE.out)
        have VTQ := Lib.hid (Vl.up hb5 _ VTE.out)
        clear hb5 n1 e10 e11 e12 e13 e14
        have e20 := n8.c0; have e21 := n8.c1; have e22 := n8.c2; have e23 := n8.c3; have e24 := n8.c4
        clear n8
        go_wp2_with fail
        refine (depth_any (objD TT MM) _ w5 VO5.out HD9.out).mono ?_
        rintro e w6 ⟨rfl, hb6⟩
        rw [HDO.out]
        have BE6 := Lib.hid (extV BE5.out hb6)
        have n1 := N15.out.below hb6 N15.out.lt
        have N86 := Lib.hid (N85.out.below hb6 N85.out.lt)
        have VO6 := Lib.hid (Vl.up hb6 _ VO5.out)
        have VT6 := Lib.hid (Vl.up hb6 _ VTQ.out)
        clear hb6 e20 e21 e22 e23 e24
        have e10 := n1.c0; have e11 := n1.c1; have e12 := n1.c2; have e13 := n1.c3; have e14 := n1.c4
        clear n1
        go_wp2_with fail
        refine (check_any TT _ w6 VT6.out (by rw [HDK.out]; omega)).mono ?_
        rintro e w7 ⟨rfl, hb7⟩
        rw [HC1.out]
        have BE7 := Lib.hid (extV BE6.out hb7)
        have n8 := N86.out.below hb7 N86.out.lt
        have VO7 := Lib.hid (Vl.up hb7 _ VO6.out)
        clear hb7 e10 e11 e12 e13 e14
        have e20 := n8.c0; have e21 := n8.c1; have e22 := n8.c2; have e23 := n8.c3; have e24 := n8.c4
        clear n8
        go_wp2_with fail
        refine (check_any (objD TT MM) _ w7 VO7.out HD9.out).mono ?_
        rintro e w8 ⟨rfl, hb8⟩
        rw [HC2.out]
        have BE8 := Lib.hid (extV BE7.out hb8)
        clear hb8 e20 e21 e22 e23 e24
        go_wp2_with fail
        refine (awake_any _ (TB.out _ BE8.out)).mono ?_
        rintro e wz ⟨rfl, hbz⟩
        have BZ := Lib.hid (extV BE8.out hbz)
        clear hbz
        go_wp2_with fail
        go_ret
        exact ⟨rfl, BZ.out⟩
      · by_cases h7 : k = 127
        · have k3 : ¬ (128 : Int) < (k : Int) + 1 := by omega
          have k4 : (128 : Int) < (k : Int) + 2 := by omega
          have hdo : (dep (objD TT MM) : Int) = (k : Int) + 2 := by unfold objD; rw [dep_mk, depL_cons, depL_cons, depL_nil, HDK.out, HDM.out]; omega
          have hc1 : chk TT = 0 := by rw [chk_may HMT.out, HDK.out]; first | rw [if_pos (by omega)] | rw [if_neg (by omega)]
          have hc2 : chk (objD TT MM) = 111 := by rw [chk_may HMO.out]; first | rw [if_pos (by omega)] | rw [if_neg (by omega)]
          have hd9 : dep (objD TT MM) ≤ 1000000 := by omega
          have HDO := Lib.hid hdo
          have HC1 := Lib.hid hc1
          have HC2 := Lib.hid hc2
          have HD9 := Lib.hid hd9
          clear hdo hc1 hc2 hd9
          go_wp2_with fail
          refine (depth_any TT _ wE VTE.out (by rw [HDK.out]; omega)).mono ?_
          rintro e w5 ⟨rfl, hb5⟩
          rw [HDK.out, show ((1 + k : Nat) : Int) = (k : Int) + 1 by omega]
          have BE5 := Lib.hid (extV BE.out hb5)
          have n1 := XR.out.below hb5 XR.out.lt
          have n8 := X8.out.below hb5 X8.out.lt
          have N15 := Lib.hid n1
          have N85 := Lib.hid n8
          have VO5 := Lib.hid (Vl.up hb5 _ VOE.out)
          have VTQ := Lib.hid (Vl.up hb5 _ VTE.out)
          clear hb5 n1 e10 e11 e12 e13 e14
          have e20 := n8.c0; have e21 := n8.c1; have e22 := n8.c2; have e23 := n8.c3; have e24 := n8.c4
          clear n8
          go_wp2_with fail
          refine (depth_any (objD TT MM) _ w5 VO5.out HD9.out).mono ?_
          rintro e w6 ⟨rfl, hb6⟩
          rw [HDO.out]
          have BE6 := Lib.hid (extV BE5.out hb6)
          have n1 := N15.out.below hb6 N15.out.lt
          have N86 := Lib.hid (N85.out.below hb6 N85.out.lt)
          have VO6 := Lib.hid (Vl.up hb6 _ VO5.out)
          have VT6 := Lib.hid (Vl.up hb6 _ VTQ.out)
          clear hb6 e20 e21 e22 e23 e24
          have e10 := n1.c0; have e11 := n1.c1; have e12 := n1.c2; have e13 := n1.c3; have e14 := n1.c4
          clear n1
          go_wp2_with fail
          refine (check_any TT _ w6 VT6.out (by rw [HDK.out]; omega)).mono ?_
          rintro e w7 ⟨rfl, hb7⟩
          rw [HC1.out]
          have BE7 := Lib.hid (extV BE6.out hb7)
          have n8 := N86.out.below hb7 N86.out.lt
          have VO7 := Lib.hid (Vl.up hb7 _ VO6.out)
          clear hb7 e10 e11 e12 e13 e14
          have e20 := n8.c0; have e21 := n8.c1; have e22 := n8.c2; have e23 := n8.c3; have e24 := n8.c4
          clear n8
          go_wp2_with fail
          refine (check_any (objD TT MM) _ w7 VO7.out HD9.out).mono ?_
          rintro e w8 ⟨rfl, hb8⟩
          rw [HC2.out]
          have BE8 := Lib.hid (extV BE7.out hb8)
          clear hb8 e20 e21 e22 e23 e24
          go_wp2_with fail
          refine (awake_any _ (TB.out _ BE8.out)).mono ?_
          rintro e wz ⟨rfl, hbz⟩
          have BZ := Lib.hid (extV BE8.out hbz)
          clear hbz
          go_wp2_with fail
          go_ret
          exact ⟨rfl, BZ.out⟩
        · have k3 : (128 : Int) < (k : Int) + 1 := by omega
          have k4 : (128 : Int) < (k : Int) + 2 := by omega
          have hdo : (dep (objD TT MM) : Int) = (k : Int) + 2 := by unfold objD; rw [dep_mk, depL_cons, depL_cons, depL_nil, HDK.out, HDM.out]; omega
          have hc1 : chk TT = 111 := by rw [chk_may HMT.out, HDK.out]; first | rw [if_pos (by omega)] | rw [if_neg (by omega)]
          have hc2 : chk (objD TT MM) = 111 := by rw [chk_may HMO.out]; first | rw [if_pos (by omega)] | rw [if_neg (by omega)]
          have hd9 : dep (objD TT MM) ≤ 1000000 := by omega
          have HDO := Lib.hid hdo
          have HC1 := Lib.hid hc1
          have HC2 := Lib.hid hc2
          have HD9 := Lib.hid hd9
          clear hdo hc1 hc2 hd9
          go_wp2_with fail
          refine (depth_any TT _ wE VTE.out (by rw [HDK.out]; omega)).mono ?_
          rintro e w5 ⟨rfl, hb5⟩
          rw [HDK.out, show ((1 + k : Nat) : Int) = (k : Int) + 1 by omega]
          have BE5 := Lib.hid (extV BE.out hb5)
          have n1 := XR.out.below hb5 XR.out.lt
          have n8 := X8.out.below hb5 X8.out.lt
          have N15 := Lib.hid n1
          have N85 := Lib.hid n8
          have VO5 := Lib.hid (Vl.up hb5 _ VOE.out)
          have VTQ := Lib.hid (Vl.up hb5 _ VTE.out)
          clear hb5 n1 e10 e11 e12 e13 e14
          have e20 := n8.c0; have e21 := n8.c1; have e22 := n8.c2; have e23 := n8.c3; have e24 := n8.c4
          clear n8
          go_wp2_with fail
          refine (depth_any (objD TT MM) _ w5 VO5.out HD9.out).mono ?_
          rintro e w6 ⟨rfl, hb6⟩
          rw [HDO.out]
          have BE6 := Lib.hid (extV BE5.out hb6)
          have n1 := N15.out.below hb6 N15.out.lt
          have N86 := Lib.hid (N85.out.below hb6 N85.out.lt)
          have VO6 := Lib.hid (Vl.up hb6 _ VO5.out)
          have VT6 := Lib.hid (Vl.up hb6 _ VTQ.out)
          clear hb6 e20 e21 e22 e23 e24
          have e10 := n1.c0; have e11 := n1.c1; have e12 := n1.c2; have e13 := n1.c3; have e14 := n1.c4
          clear n1
          go_wp2_with fail
          refine (check_any TT _ w6 VT6.out (by rw [HDK.out]; omega)).mono ?_
          rintro e w7 ⟨rfl, hb7⟩
          rw [HC1.out]
          have BE7 := Lib.hid (extV BE6.out hb7)
          have n8 := N86.out.below hb7 N86.out.lt
          have VO7 := Lib.hid (Vl.up hb7 _ VO6.out)
          clear hb7 e10 e11 e12 e13 e14
          have e20 := n8.c0; have e21 := n8.c1; have e22 := n8.c2; have e23 := n8.c3; have e24 := n8.c4
          clear n8
          go_wp2_with fail
          refine (check_any (objD TT MM) _ w7 VO7.out HD9.out).mono ?_
          rintro e w8 ⟨rfl, hb8⟩
          rw [HC2.out]
          have BE8 := Lib.hid (extV BE7.out hb8)
          clear hb8 e20 e21 e22 e23 e24
          go_wp2_with fail
          refine (awake_any _ (TB.out _ BE8.out)).mono ?_
          rintro e wz ⟨rfl, hbz⟩
          have BZ := Lib.hid (extV BE8.out hbz)
          clear hbz
          go_wp2_with fail
          go_ret
          exact ⟨rfl, BZ.out⟩
  · rintro a w0 ⟨hS, s20, s22, s24, s25, s26, s8, rfl, hF⟩
    obtain ⟨A6, m6, c6, B6, q6, d6, S6, rfl, ho0, hs1, hs2⟩ := hF.c4 (by omega)
    refine any_takeD 7 19 (.tuple #[.agg #[.int .i64 5, .bool false, .string ⟨#[]⟩, .slice A6 m6 c6, .slice B6 q6 d6], .int .i64 0]) rfl rfl (by kernel_rfl) (by kernel_rfl) (by kernel_rfl) (by kernel_rfl) (fun _ _ _ h => h) (by rfl) ?_ hS ?_
    · intro w' hS'
      go_simp
    simp only [Act.put, List.setIfInBounds_toArray, List.set_cons_zero, List.set_cons_succ]
    refine any_takeD 8 27 (.agg #[.int .i64 5, .bool false, .string ⟨#[]⟩, .slice A6 m6 c6, .slice B6 q6 d6]) rfl rfl (by kernel_rfl) (by kernel_rfl) (by kernel_rfl) (by kernel_rfl) (fun _ _ _ h => h) (by rfl) ?_ hS ?_
    · intro w' hS'
      go_simp
    simp only [Act.put, List.setIfInBounds_toArray, List.set_cons_zero, List.set_cons_succ]
    refine any_takeD 9 28 (.int .i64 0) rfl rfl (by kernel_rfl) (by kernel_rfl) (by kernel_rfl) (by kernel_rfl) (fun _ _ _ h => h) (by rfl) ?_ hS ?_
    · intro w' hS'
      go_simp
    simp only [Act.put, List.setIfInBounds_toArray, List.set_cons_zero, List.set_cons_succ]
    obtain ⟨g8, hg80⟩ : ∃ g, w0.heap.size = g := ⟨_, rfl⟩
    obtain ⟨W9, hW9⟩ : ∃ W, w0.alloc (.cells #[.int .i64 0, .bool false, .string ⟨#[]⟩, .slice none 0 0, .slice none 0 0] 25) = W := ⟨_, rfl⟩
    have hb : Below w0.heap.size w0 W9 := by rw [← hW9]; exact below_allocV w0 _
    have hx8 : Bx W9 g8 (.int .i64 0) (.bool false) (.string ⟨#[]⟩) (.slice none 0 0) (.slice none 0 0) := by rw [← hW9, ← hg80]; exact heap_alloc_new w0 _
    have hS9 := hS.below hb hS.lt
    refine any_runD 10 8 (.pointer (some ⟨g8, 0, none⟩)) W9 (by kernel_rfl) rfl rfl (by rfl) ?_ (.inr hS9) ?_
    · rw [← hW9, ← hg80]; go_simp
    simp only [Act.put, List.setIfInBounds_toArray, List.set_cons_zero, List.set_cons_succ]
    have ho := ho0.kept _ (fun z hz => hb.block z (hs1 z hz).2)
    have hns : ¬ S6 g8 := fun q => by have := (hs1 g8 q).2; omega
    have hg8 : V1.heap.size ≤ g8 := by have := hF.up.size; omega
    have hup := extV hF.up hb
    clear hW9 hg80 hb ho0
    have z8 : R1 < V1.heap.size := N1.out.lt
    have hne : R1 ≠ g8 := by omega
    have e0 := hx8.c0; have f0 := hx8.fz 0; have e1 := hx8.c1; have f1 := hx8.fz 1; have e2 := hx8.c2; have f2 := hx8.fz 2; have e3 := hx8.c3; have f3 := hx8.fz 3; have e4 := hx8.c4; have f4 := hx8.fz 4
    have hq9 : put5 W9 g8 (.int .i64 5) (.bool false) (.string ⟨#[]⟩) (.slice A6 m6 c6) (.slice B6 q6 d6) = ((((W9.setCell ⟨g8, 0, none⟩ (.int .i64 5)).setCell ⟨g8, 1, none⟩ (.bool false)).setCell ⟨g8, 2, none⟩ (.string ⟨#[]⟩)).setCell ⟨g8, 3, none⟩ (.slice A6 m6 c6)).setCell ⟨g8, 4, none⟩ (.slice B6 q6 d6) := rfl
    have hk9 : ∀ z, z ≠ g8 → (put5 W9 g8 (.int .i64 5) (.bool false) (.string ⟨#[]⟩) (.slice A6 m6 c6) (.slice B6 q6 d6)).heap[z]? = W9.heap[z]? := fun z hz => put5_heap z hz
    have hx9 : Bx (put5 W9 g8 (.int .i64 5) (.bool false) (.string ⟨#[]⟩) (.slice A6 m6 c6) (.slice B6 q6 d6)) g8 (.int .i64 5) (.bool false) (.string ⟨#[]⟩) (.slice A6 m6 c6) (.slice B6 q6 d6) := put5_bx hx8
    have hL9 : Below V1.heap.size V1 (put5 W9 g8 (.int .i64 5) (.bool false) (.string ⟨#[]⟩) (.slice A6 m6 c6) (.slice B6 q6 d6)) := put5_below hup hg8
    have hS10 : Bx (put5 W9 g8 (.int .i64 5) (.bool false) (.string ⟨#[]⟩) (.slice A6 m6 c6) (.slice B6 q6 d6)) R1 (.int .i64 TT.kind) (.bool TT.isB) (.string TT.text) (.slice X3 n3 c3) (.slice Y3 q3 d3) := hS9.same (hk9 R1 hne)
    rw [hq9] at hS10
    refine any_run0 11 (((((W9.setCell ⟨g8, 0, none⟩ (.int .i64 5)).setCell ⟨g8, 1, none⟩ (.bool false)).setCell ⟨g8, 2, none⟩ (.string ⟨#[]⟩)).setCell ⟨g8, 3, none⟩ (.slice A6 m6 c6)).setCell ⟨g8, 4, none⟩ (.slice B6 q6 d6)) (by kernel_rfl) rfl rfl (by rfl) ?_ (.inr hS10) ?_
    · go_simp
    rw [← hq9] at hS10 ⊢
    clear hq9
    obtain ⟨wE, hwE⟩ : ∃ W, put5 W9 g8 (.int .i64 5) (.bool false) (.string ⟨#[]⟩) (.slice A6 m6 c6) (.slice B6 q6 d6) = W := ⟨_, rfl⟩
    rw [hwE] at hk9 hx9 hL9 hS10 ⊢
    refine any_runD 12 9 (.int .i64 0) wE (by kernel_rfl) rfl rfl (by rfl) ?_ (.inr hS10) ?_
    · go_simp
    simp only [Act.put, List.setIfInBounds_toArray, List.set_cons_zero, List.set_cons_succ]
    refine any_done (by kernel_rfl) ?_ _
    refine calm_normal ?_
    have VOE := Lib.hid ((ho.kept _ (fun z hz => hk9 z (fun e => hns (by rw [← e]; exact hz)))).vl _)
    have BE := Lib.hid (extV BV.out hL9)
    have VTE := Lib.hid (Vl.up hL9 _ UV.out)
    have XR := Lib.hid hS10
    have X8 := Lib.hid hx9
    have HMT : Hid (may TT = true) := Lib.hid (by rw [← HTT.out]; exact may_nest (by rw [may_mk]; rfl) k)
    have HMM' : Hid (may MM = true) := Lib.hid (by rw [← HMM.out]; exact may_nest (by rw [may_mk]; rfl) m)
    have HMO : Hid (may (objD TT MM) = true) := Lib.hid (by unfold objD; rw [may_mk]; simp [HMT.out, HMM'.out]; rfl)
    clear e0 e1 e2 e3 e4 f0 f1 f2 f3 f4 hwE hk9 hL9 hS9 hx8 hns ho hS HSS hd0
    have e10 := hS10.c0; have e11 := hS10.c1; have e12 := hS10.c2; have e13 := hS10.c3; have e14 := hS10.c4
    clear hS10 hx9 hF
    by_cases hkm : k < m
    · have k1 : (k : Int) < (m : Int) := by omega
      have k2 : max (k : Int) (m : Int) = (m : Int) := by omega
      have k3 : ¬ (128 : Int) < (k : Int) + 1 := by omega
      have k4 : ¬ (128 : Int) < (m : Int) + 2 := by omega
      have hdo : (dep (objD TT MM) : Int) = (m : Int) + 2 := by unfold objD; rw [dep_mk, depL_cons, depL_cons, depL_nil, HDK.out, HDM.out]; omega
      have hc1 : chk TT = 0 := by rw [chk_may HMT.out, HDK.out]; first | rw [if_pos (by omega)] | rw [if_neg (by omega)]
      have hc2 : chk (objD TT MM) = 0 := by rw [chk_may HMO.out]; first | rw [if_pos (by omega)] | rw [if_neg (by omega)]
      have hd9 : dep (objD TT MM) ≤ 1000000 := by omega
      have HDO := Lib.hid hdo
      have HC1 := Lib.hid hc1
      have HC2 := Lib.hid hc2
      have HD9 := Lib.hid hd9
      clear hdo hc1 hc2 hd9
      go_wp2_with fail
      refine (depth_any TT _ wE VTE.out (by rw [HDK.out]; omega)).mono ?_
      rintro e w5 ⟨rfl, hb5⟩
      rw [HDK.out, show ((1 + k : Nat) : Int) = (k : Int) + 1 by omega]
      have BE5 := Lib.hid (extV BE.out hb5)
      have n1 := XR.out.below hb5 XR.out.lt
      have n8 := X8.out.below hb5 X8.out.lt
      have N15 := Lib.hid n1
      have N85 := Lib.hid n8
      have VO5 := Lib.hid (Vl.up hb5 _ VOE.out)
      have VTQ := Lib.hid (Vl.up hb5 _ VTE.out)
      clear hb5 n1 e10 e11 e12 e13 e14
      have e20 := n8.c0; have e21 := n8.c1; have e22 := n8.c2; have e23 := n8.c3; have e24 := n8.c4
      clear n8
      go_wp2_with fail
      refine (depth_any (objD TT MM) _ w5 VO5.out HD9.out).mono ?_
      rintro e w6 ⟨rfl, hb6⟩
      rw [HDO.out]
      have BE6 := Lib.hid (extV BE5.out hb6)
      have n1 := N15.out.below hb6 N15.out.lt
      have N86 := Lib.hid (N85.out.below hb6 N85.out.lt)
      have VO6 := Lib.hid (Vl.up hb6 _ VO5.out)
      have VT6 := Lib.hid (Vl.up hb6 _ VTQ.out)
      clear hb6 e20 e21 e22 e23 e24
      have e10 := n1.c0; have e11 := n1.c1; have e12 := n1.c2; have e13 := n1.c3; have e14 := n1.c4
      clear n1
      go_wp2_with fail
      refine (check_any TT _ w6 VT6.out (by rw [HDK.out]; omega)).mono ?_
      rintro e w7 ⟨rfl, hb7⟩
      rw [HC1.out]
      have BE7 := Lib.hid (extV BE6.out hb7)
      have n8 := N86.out.below hb7 N86.out.lt
      have VO7 := Lib.hid (Vl.up hb7 _ VO6.out)
      clear hb7 e10 e11 e12 e13 e14
      have e20 := n8.c0; have e21 := n8.c1; have e22 := n8.c2; have e23 := n8.c3; have e24 := n8.c4
      clear n8
      go_wp2_with fail
      refine (check_any (objD TT MM) _ w7 VO7.out HD9.out).mono ?_
      rintro e w8 ⟨rfl, hb8⟩
      rw [HC2.out]
      have BE8 := Lib.hid (extV BE7.out hb8)
      clear hb8 e20 e21 e22 e23 e24
      go_wp2_with fail
      refine (awake_any _ (TB.out _ BE8.out)).mono ?_
      rintro e wz ⟨rfl, hbz⟩
      have BZ := Lib.hid (extV BE8.out hbz)
      clear hbz
      go_wp2_with fail
      go_ret
      exact ⟨rfl, BZ.out⟩
    · have k1 : ¬ (k : Int) < (m : Int) := by omega
      have k2 : max (k : Int) (m : Int) = (k : Int) := by omega
      by_cases h6 : k ≤ 126
      · have k3 : ¬ (128 : Int) < (k : Int) + 1 := by omega
        have k4 : ¬ (128 : Int) < (k : Int) + 2 := by omega
        have hdo : (dep (objD TT MM) : Int) = (k : Int) + 2 := by unfold objD; rw [dep_mk, depL_cons, depL_cons, depL_nil, HDK.out, HDM.out]; omega
        have hc1 : chk TT = 0 := by rw [chk_may HMT.out, HDK.out]; first | rw [if_pos (by omega)] | rw [if_neg (by omega)]
        have hc2 : chk (objD TT MM) = 0 := by rw [chk_may HMO.out]; first | rw [if_pos (by omega)] | rw [if_neg (by omega)]
        have hd9 : dep (objD TT MM) ≤ 1000000 := by omega
        have HDO := Lib.hid hdo
        have HC1 := Lib.hid hc1
        have HC2 := Lib.hid hc2
        have HD9 := Lib.hid hd9
        clear hdo hc1 hc2 hd9
        go_wp2_with fail
        refine (depth_any TT _ wE VTE.out (by rw [HDK.out]; omega)).mono ?_
        rintro e w5 ⟨rfl, hb5⟩
        rw [HDK.out, show ((1 + k : Nat) : Int) = (k : Int) + 1 by omega]
        have BE5 := Lib.hid (extV BE.out hb5)
        have n1 := XR.out.below hb5 XR.out.lt
        have n8 := X8.out.below hb5 X8.out.lt
        have N15 := Lib.hid n1
        have N85 := Lib.hid n8
        have VO5 := Lib.hid (Vl.up hb5 _ VOE.out)
        have VTQ := Lib.hid (Vl.up hb5 _ VTE.out)
        clear hb5 n1 e10 e11 e12 e13 e14
        have e20 := n8.c0; have e21 := n8.c1; have e22 := n8.c2; have e23 := n8.c3; have e24 := n8.c4
        clear n8
        go_wp2_with fail
        refine (depth_any (objD TT MM) _ w5 VO5.out HD9.out).mono ?_
        rintro e w6 ⟨rfl, hb6⟩
        rw [HDO.out]
        have BE6 := Lib.hid (extV BE5.out hb6)
        have n1 := N15.out.below hb6 N15.out.lt
        have N86 := Lib.hid (N85.out.below hb6 N85.out.lt)
        have VO6 := Lib.hid (Vl.up hb6 _ VO5.out)
        have VT6 := Lib.hid (Vl.up hb6 _ VTQ.out)
        clear hb6 e20 e21 e22 e23 e24
        have e10 := n1.c0; have e11 := n1.c1; have e12 := n1.c2; have e13 := n1.c3; have e14 := n1.c4
        clear n1
        go_wp2_with fail
        refine (check_any TT _ w6 VT6.out (by rw [HDK.out]; omega)).mono ?_
        rintro e w7 ⟨rfl, hb7⟩
        rw [HC1.out]
        have BE7 := Lib.hid (extV BE6.out hb7)
        have n8 := N86.out.below hb7 N86.out.lt
        have VO7 := Lib.hid (Vl.up hb7 _ VO6.out)
        clear hb7 e10 e11 e12 e13 e14
        have e20 := n8.c0; have e21 := n8.c1; have e22 := n8.c2; have e23 := n8.c3; have e24 := n8.c4
        clear n8
        go_wp2_with fail
        refine (check_any (objD TT MM) _ w7 VO7.out HD9.out).mono ?_
        rintro e w8 ⟨rfl, hb8⟩
        rw [HC2.out]
        have BE8 := Lib.hid (extV BE7.out hb8)
        clear hb8 e20 e21 e22 e23 e24
        go_wp2_with fail
        refine (awake_any _ (TB.out _ BE8.out)).mono ?_
        rintro e wz ⟨rfl, hbz⟩
        have BZ := Lib.hid (extV BE8.out hbz)
        clear hbz
        go_wp2_with fail
        go_ret
        exact ⟨rfl, BZ.out⟩
      · by_cases h7 : k = 127
        · have k3 : ¬ (128 : Int) < (k : Int) + 1 := by omega
          have k4 : (128 : Int) < (k : Int) + 2 := by omega
          have hdo : (dep (objD TT MM) : Int) = (k : Int) + 2 := by unfold objD; rw [dep_mk, depL_cons, depL_cons, depL_nil, HDK.out, HDM.out]; omega
          have hc1 : chk TT = 0 := by rw [chk_may HMT.out, HDK.out]; first | rw [if_pos (by omega)] | rw [if_neg (by omega)]
          have hc2 : chk (objD TT MM) = 111 := by rw [chk_may HMO.out]; first | rw [if_pos (by omega)] | rw [if_neg (by omega)]
          have hd9 : dep (objD TT MM) ≤ 1000000 := by omega
          have HDO := Lib.hid hdo
          have HC1 := Lib.hid hc1
          have HC2 := Lib.hid hc2
          have HD9 := Lib.hid hd9
          clear hdo hc1 hc2 hd9
          go_wp2_with fail
          refine (depth_any TT _ wE VTE.out (by rw [HDK.out]; omega)).mono ?_
          rintro e w5 ⟨rfl, hb5⟩
          rw [HDK.out, show ((1 + k : Nat) : Int) = (k : Int) + 1 by omega]
          have BE5 := Lib.hid (extV BE.out hb5)
          have n1 := XR.out.below hb5 XR.out.lt
          have n8 := X8.out.below hb5 X8.out.lt
          have N15 := Lib.hid n1
          have N85 := Lib.hid n8
          have VO5 := Lib.hid (Vl.up hb5 _ VOE.out)
          have VTQ := Lib.hid (Vl.up hb5 _ VTE.out)
          clear hb5 n1 e10 e11 e12 e13 e14
          have e20 := n8.c0; have e21 := n8.c1; have e22 := n8.c2; have e23 := n8.c3; have e24 := n8.c4
          clear n8
          go_wp2_with fail
          refine (depth_any (objD TT MM) _ w5 VO5.out HD9.out).mono ?_
          rintro e w6 ⟨rfl, hb6⟩
          rw [HDO.out]
          have BE6 := Lib.hid (extV BE5.out hb6)
          have n1 := N15.out.below hb6 N15.out.lt
          have N86 := Lib.hid (N85.out.below hb6 N85.out.lt)
          have VO6 := Lib.hid (Vl.up hb6 _ VO5.out)
          have VT6 := Lib.hid (Vl.up hb6 _ VTQ.out)
          clear hb6 e20 e21 e22 e23 e24
          have e10 := n1.c0; have e11 := n1.c1; have e12 := n1.c2; have e13 := n1.c3; have e14 := n1.c4
          clear n1
          go_wp2_with fail
          refine (check_any TT _ w6 VT6.out (by rw [HDK.out]; omega)).mono ?_
          rintro e w7 ⟨rfl, hb7⟩
          rw [HC1.out]
          have BE7 := Lib.hid (extV BE6.out hb7)
          have n8 := N86.out.below hb7 N86.out.lt
          have VO7 := Lib.hid (Vl.up hb7 _ VO6.out)
          clear hb7 e10 e11 e12 e13 e14
          have e20 := n8.c0; have e21 := n8.c1; have e22 := n8.c2; have e23 := n8.c3; have e24 := n8.c4
          clear n8
          go_wp2_with fail
          refine (check_any (objD TT MM) _ w7 VO7.out HD9.out).mono ?_
          rintro e w8 ⟨rfl, hb8⟩
          rw [HC2.out]
          have BE8 := Lib.hid (extV BE7.out hb8)
          clear hb8 e20 e21 e22 e23 e24
          go_wp2_with fail
          refine (awake_any _ (TB.out _ BE8.out)).mono ?_
          rintro e wz ⟨rfl, hbz⟩
          have BZ := Lib.hid (extV BE8.out hbz)
          clear hbz
          go_wp2_with fail
          go_ret
          exact ⟨rfl, BZ.out⟩
        · have k3 : (128 : Int) < (k : Int) + 1 := by omega
          have k4 : (128 : Int) < (k : Int) + 2 := by omega
          have hdo : (dep (objD TT MM) : Int) = (k : Int) + 2 := by unfold objD; rw [dep_mk, depL_cons, depL_cons, depL_nil, HDK.out, HDM.out]; omega
          have hc1 : chk TT = 111 := by rw [chk_may HMT.out, HDK.out]; first | rw [if_pos (by omega)] | rw [if_neg (by omega)]
          have hc2 : chk (objD TT MM) = 111 := by rw [chk_may HMO.out]; first | rw [if_pos (by omega)] | rw [if_neg (by omega)]
          have hd9 : dep (objD TT MM) ≤ 1000000 := by omega
          have HDO := Lib.hid hdo
          have HC1 := Lib.hid hc1
          have HC2 := Lib.hid hc2
          have HD9 := Lib.hid hd9
          clear hdo hc1 hc2 hd9
          go_wp2_with fail
          refine (depth_any TT _ wE VTE.out (by rw [HDK.out]; omega)).mono ?_
          rintro e w5 ⟨rfl, hb5⟩
          rw [HDK.out, show ((1 + k : Nat) : Int) = (k : Int) + 1 by omega]
          have BE5 := Lib.hid (extV BE.out hb5)
          have n1 := XR.out.below hb5 XR.out.lt
          have n8 := X8.out.below hb5 X8.out.lt
          have N15 := Lib.hid n1
          have N85 := Lib.hid n8
          have VO5 := Lib.hid (Vl.up hb5 _ VOE.out)
          have VTQ := Lib.hid (Vl.up hb5 _ VTE.out)
          clear hb5 n1 e10 e11 e12 e13 e14
          have e20 := n8.c0; have e21 := n8.c1; have e22 := n8.c2; have e23 := n8.c3; have e24 := n8.c4
          clear n8
          go_wp2_with fail
          refine (depth_any (objD TT MM) _ w5 VO5.out HD9.out).mono ?_
          rintro e w6 ⟨rfl, hb6⟩
          rw [HDO.out]
          have BE6 := Lib.hid (extV BE5.out hb6)
          have n1 := N15.out.below hb6 N15.out.lt
          have N86 := Lib.hid (N85.out.below hb6 N85.out.lt)
          have VO6 := Lib.hid (Vl.up hb6 _ VO5.out)
          have VT6 := Lib.hid (Vl.up hb6 _ VTQ.out)
          clear hb6 e20 e21 e22 e23 e24
          have e10 := n1.c0; have e11 := n1.c1; have e12 := n1.c2; have e13 := n1.c3; have e14 := n1.c4
          clear n1
          go_wp2_with fail
          refine (check_any TT _ w6 VT6.out (by rw [HDK.out]; omega)).mono ?_
          rintro e w7 ⟨rfl, hb7⟩
          rw [HC1.out]
          have BE7 := Lib.hid (extV BE6.out hb7)
          have n8 := N86.out.below hb7 N86.out.lt
          have VO7 := Lib.hid (Vl.up hb7 _ VO6.out)
          clear hb7 e10 e11 e12 e13 e14
          have e20 := n8.c0; have e21 := n8.c1; have e22 := n8.c2; have e23 := n8.c3; have e24 := n8.c4
          clear n8
          go_wp2_with fail
          refine (check_any (objD TT MM) _ w7 VO7.out HD9.out).mono ?_
          rintro e w8 ⟨rfl, hb8⟩
          rw [HC2.out]
          have BE8 := Lib.hid (extV BE7.out hb8)
          clear hb8 e20 e21 e22 e23 e24
          go_wp2_with fail
          refine (awake_any _ (TB.out _ BE8.out)).mono ?_
          rintro e wz ⟨rfl, hbz⟩
          have BZ := Lib.hid (extV BE8.out hbz)
          clear hbz
          go_wp2_with fail
          go_ret
          exact ⟨rfl, BZ.out⟩
end Go.Proofs.YtlgeibaejeiemaaDoor
