/-
  The walk of ValueApart.
-/
import Derived.Test.YtlgeibaejeiemaaDoorVy
namespace Go.Proofs.YtlgeibaejeiemaaDoor
set_option linter.unusedVariables false
set_option linter.unusedSimpArgs false
open Go.RowKit
open Wd We Vt

set_option maxRecDepth 100000 in
set_option maxHeartbeats 16000000 in
theorem walk_ValueApart (v0 : Value) (T0 : Vt.Tr) (w : World) (s0 : Vt.Vl w v0 T0) (m0 : Vt.Sm T0) (tab : It.Tab w) :
    Calls Tryd.prog 8 #[v0] w fun e w' => e = .returned (.bool true) ∧ Below w.heap.size w w' := by
  obtain ⟨X0, n0, c0, Y0, q0, d0, rfl, _⟩ := s0.open_
  have HV0 := Lib.hid s0
  have HM0 := Lib.hid m0
  have TB := Lib.hid (fun (w' : World) (h : Below w.heap.size w w') => tab.below h)
  obtain ⟨Q0, hQ0⟩ : ∃ Q, w.heap.size = Q := ⟨_, rfl⟩
  obtain ⟨W1, hW1⟩ : ∃ W, w.alloc (.cells #[.int .i64 T0.kind, .bool T0.isB, .string T0.text, .slice X0 n0 c0, .slice Y0 q0 d0] 25) = W := ⟨_, rfl⟩
  have z1 : W1.heap.size = Q0 + 1 := by rw [← hW1, World.size_alloc]; omega
  have b1 : Below w.heap.size w W1 := by rw [← hW1]; exact below_allocV w _
  have x0 : Bx W1 Q0 (.int .i64 T0.kind) (.bool T0.isB) (.string T0.text) (.slice X0 n0 c0) (.slice Y0 q0 d0) := by rw [← hW1, show Q0 = w.heap.size by omega]; exact heap_alloc_new w _
  have bb1 : Below w.heap.size w W1 := b1
  obtain ⟨W2, hW2⟩ : ∃ W, W1.alloc (.cells #[.int .i64 T0.kind, .bool T0.isB, .string T0.text, .slice X0 n0 c0, .slice Y0 q0 d0] 25) = W := ⟨_, rfl⟩
  have bl : Below W1.heap.size W1 W2 := by rw [← hW2]; exact below_allocV W1 _
  have bbl : Below w.heap.size w W2 := extV bb1 bl
  have y0 := x0.below bl (by omega)
  have HX0 := Lib.hid y0
  have vv0 := Vl.up bbl _ s0
  have UV0 := Lib.hid vv0
  have VLL : VL W2 (some ⟨W1.heap.size, 0, none⟩) 1 1 [T0] := VL.one_at (by rw [← hW2]; exact heap_alloc_new W1 _) vv0
  have CT := Lib.hid (deepList_any _ _ _ _ W2 VLL)
  have a00 := x0.c0; have a01 := x0.c1; have a02 := x0.c2; have a03 := x0.c3; have a04 := x0.c4
  have BL := Lib.hid bbl
  have HW1 := Lib.hid hW1
  have HW2 := Lib.hid hW2
  have HQ0 := Lib.hid hQ0
  have HZ1 := Lib.hid z1
  clear tab s0 m0 hQ0 hW1 z1 b1 bb1 x0 y0 vv0 hW2 bl bbl VLL
  go_enter Tryd.func8, Tryd.ntmps8
  go_upto_region 1 with fail
  rw [HW1.out, HQ0.out]
  rw [HZ1.out] at CT
  obtain ⟨QL, hQL⟩ : ∃ Q, Q0 + 1 = Q := ⟨_, rfl⟩
  rw [hQL] at CT
  have HQL := Lib.hid hQL
  clear hQL
  go_wp2_with fail
  rw [HW2.out]
  rw [HZ1.out, HQL.out]
  refine CT.out.mono ?_
  rintro e wd ⟨rfl, hb⟩
  have BW := Lib.hid (extV BL.out hb)
  have u0 := HX0.out.below hb HX0.out.lt
  have HU0 := Lib.hid u0
  clear hb a00 a01 a02 a03 a04
  have a00 := u0.c0; have a01 := u0.c1; have a02 := u0.c2; have a03 := u0.c3; have a04 := u0.c4
  clear u0
  cases hdp : dpL [T0] 991 with
  | true =>
    clear hdp
    go_wp2_with fail
    refine (awake_any _ (TB.out _ BW.out)).mono ?_
    rintro e wz ⟨rfl, hbz⟩
    have BZ := Lib.hid (extV BW.out hbz)
    clear hbz
    go_wp2_with fail
    go_ret
    exact ⟨rfl, BZ.out⟩
  | false =>
    have HD0 := Lib.hid (dp_no hdp (show T0 ∈ [T0] by simp))
    clear hdp
    have VV0 := Lib.hid (Vl.up BW.out _ HV0.out)
    have hlens := vl_lens HV0.out
    go_wp2_with fail
    refine (vcopy_any _ _ wd VV0.out).mono ?_
    rintro e w4 ⟨A4, m4, c4, B4, q4, d4, rfl, hb4, ho4⟩
    have BW4 := Lib.hid (extV BW.out hb4)
    have HB4 := Lib.hid hb4
    have HU4 := Lib.hid (HU0.out.below hb4 HU0.out.lt)
    have HO4 := Lib.hid ho4
    clear hb4 ho4 a00 a01 a02 a03 a04
    obtain ⟨R1, hR1⟩ : ∃ R, w4.heap.size = R := ⟨_, rfl⟩
    obtain ⟨U1, hU1⟩ : ∃ U, w4.alloc (.cells #[.int .i64 0, .bool false, .string ⟨#[]⟩, .slice none 0 0, .slice none 0 0] 25) = U := ⟨_, rfl⟩
    obtain ⟨nb, nb2⟩ := newbox hR1 hU1
    obtain ⟨nb3, nb4, nb5⟩ := nb2 (.int .i64 T0.kind) (.bool T0.isB) (.string T0.text) (.slice A4 m4 c4) (.slice B4 q4 d4)
    have e0 := nb.c0; have e1 := nb.c1; have e2 := nb.c2; have e3 := nb.c3; have e4 := nb.c4
    have f0 := nb.fz 0; have f1 := nb.fz 1; have f2 := nb.fz 2; have f3 := nb.fz 3; have f4 := nb.fz 4
    obtain ⟨V1, hV1⟩ : ∃ V, put5 U1 R1 (.int .i64 T0.kind) (.bool T0.isB) (.string T0.text) (.slice A4 m4 c4) (.slice B4 q4 d4) = V := ⟨_, rfl⟩
    rw [hV1] at nb3 nb4 nb5
    have HV1 := Lib.hid hV1
    have HR1 := Lib.hid hR1
    have N1 := Lib.hid nb3
    have NB1 := Lib.hid nb4
    have NS1 := Lib.hid nb5
    clear hV1 nb nb2 nb3 nb4 nb5
    go_upto_region 4 with fail
    rw [show ((((U1.setCell ⟨R1, 0, none⟩ (.int .i64 T0.kind)).setCell ⟨R1, 1, none⟩ (.bool T0.isB)).setCell ⟨R1, 2, none⟩ (.string T0.text)).setCell ⟨R1, 3, none⟩ (.slice A4 m4 c4)).setCell ⟨R1, 4, none⟩ (.slice B4 q4 d4) = V1 from HV1.out]
    clear e0 e1 e2 e3 e4 f0 f1 f2 f3 f4 hU1
    have ov1 := HO4.out.kept _ (fun x hx => NB1.out.block x hx.2)
    have OV1 := Lib.hid ov1
    have BV1 := Lib.hid (extV BW4.out NB1.out)
    have BD1 := Lib.hid (extV HB4.out NB1.out)
    have U1 := Lib.hid (HU4.out.below NB1.out HU4.out.lt)
    have S1 : Hid (w4.heap.size = R1 ∧ V1.heap.size = R1 + 1) := Lib.hid ⟨HR1.out, NS1.out⟩
    clear hR1 ov1
    have e10 := N1.out.c0; have e11 := N1.out.c1; have e12 := N1.out.c2; have e13 := N1.out.c3; have e14 := N1.out.c4
    go_wp2_with fail
    refine (vcopy_any _ _ V1 (OV1.out.vl _)).mono ?_
    rintro e w6 ⟨A6, m6, c6, B6, q6, d6, rfl, hb6, ho6⟩
    have BW6 := Lib.hid (extV BV1.out hb6)
    have BD6 := Lib.hid (extV BD1.out hb6)
    have U6 := Lib.hid (U1.out.below hb6 U1.out.lt)
    have N16 := Lib.hid (N1.out.below hb6 N1.out.lt)
    have OA6 := Lib.hid (OV1.out.kept _ (fun x hx => hb6.block x (by have := S1.out; omega)))
    have OB6 := Lib.hid ho6
    have S6 := Lib.hid hb6.size
    clear hb6 ho6 e10 e11 e12 e13 e14
    obtain ⟨R2, hR2⟩ : ∃ R, w6.heap.size = R := ⟨_, rfl⟩
    obtain ⟨U2, hU2⟩ : ∃ U, w6.alloc (.cells #[.int .i64 0, .bool false, .string ⟨#[]⟩, .slice none 0 0, .slice none 0 0] 25) = U := ⟨_, rfl⟩
    obtain ⟨nb, nb2⟩ := newbox hR2 hU2
    obtain ⟨nb3, nb4, nb5⟩ := nb2 (.int .i64 T0.kind) (.bool T0.isB) (.string T0.text) (.slice A6 m6 c6) (.slice B6 q6 d6)
    have e0 := nb.c0; have e1 := nb.c1; have e2 := nb.c2; have e3 := nb.c3; have e4 := nb.c4
    have f0 := nb.fz 0; have f1 := nb.fz 1; have f2 := nb.fz 2; have f3 := nb.fz 3; have f4 := nb.fz 4
    obtain ⟨V2, hV2⟩ : ∃ V, put5 U2 R2 (.int .i64 T0.kind) (.bool T0.isB) (.string T0.text) (.slice A6 m6 c6) (.slice B6 q6 d6) = V := ⟨_, rfl⟩
    rw [hV2] at nb3 nb4 nb5
    have HV2 := Lib.hid hV2
    have HR2 := Lib.hid hR2
    have N2 := Lib.hid nb3
    have NB2 := Lib.hid nb4
    have NS2 := Lib.hid nb5
    clear hV2 nb nb2 nb3 nb4 nb5
    go_upto_region 5 with fail
    rw [show ((((U2.setCell ⟨R2, 0, none⟩ (.int .i64 T0.kind)).setCell ⟨R2, 1, none⟩ (.bool T0.isB)).setCell ⟨R2, 2, none⟩ (.string T0.text)).setCell ⟨R2, 3, none⟩ (.slice A6 m6 c6)).setCell ⟨R2, 4, none⟩ (.slice B6 q6 d6) = V2 from HV2.out]
    clear e0 e1 e2 e3 e4 f0 f1 f2 f3 f4 hU2
    have OA7 := Lib.hid (OA6.out.kept _ (fun x hx => NB2.out.block x (by have := S6.out; have := S1.out; omega)))
    have OB7 := Lib.hid (OB6.out.kept _ (fun x hx => NB2.out.block x hx.2))
    have BV2 := Lib.hid (extV BW6.out NB2.out)
    have BD2 := Lib.hid (extV BD6.out NB2.out)
    have U7 := Lib.hid (U6.out.below NB2.out U6.out.lt)
    have n1 := N16.out.below NB2.out N16.out.lt
    have N17 := Lib.hid n1
    have S7 : Hid (w6.heap.size = R2 ∧ V2.heap.size = R2 + 1 ∧ R1 + 1 ≤ R2) := Lib.hid ⟨HR2.out, NS2.out, by have := S6.out; have := S1.out; have := HR2.out; omega⟩
    clear hR2
    have e10 := n1.c0; have e11 := n1.c1; have e12 := n1.c2; have e13 := n1.c3; have e14 := n1.c4
    clear n1
    go_wp2_with fail
    refine (spoil_any T0 _ _ V2 OA7.out (fun x hx => by have := S7.out; have := S1.out; omega) HM0.out).mono ?_
    rintro e w8 ⟨⟨rr, rfl⟩, hk8, hsp⟩
    have hwd : wd.heap.size ≤ V2.heap.size := BD2.out.size
    have hbk : Below wd.heap.size V2 w8 := hk8.below hwd (fun x hx q => by omega)
    have BD8 := Lib.hid (BD2.out.trans hbk)
    have BE8 := Lib.hid (BW.out.trans (BD8.out.mono BW.out.size))
    have U8 := Lib.hid (U7.out.same (hbk.block Q0 HU0.out.lt))
    have N18 := Lib.hid (N17.out.same (hk8.2 R1 N17.out.lt (fun q => by have := S1.out; omega)))
    have N28 := Lib.hid (N2.out.same (hk8.2 R2 N2.out.lt (fun q => by have := S7.out; have := S1.out; omega)))
    have OB8 := Lib.hid (OB7.out.kept _ (fun x hx => hk8.2 x (by have := S7.out; omega) (fun q => by have := S1.out; omega)))
    have SP8 := Lib.hid (hsp.vl _)
    clear hwd hbk hk8 hsp e10 e11 e12 e13 e14
    have e20 := N28.out.c0; have e21 := N28.out.c1; have e22 := N28.out.c2; have e23 := N28.out.c3; have e24 := N28.out.c4
    go_wp2_with fail
    refine (vcopy_any _ _ w8 (OB8.out.vl _)).mono ?_
    rintro e w9 ⟨A9, m9, c9, B9, q9, d9, rfl, hb9, ho9⟩
    have BW9 := Lib.hid (extV BE8.out hb9)
    have BD9 := Lib.hid (BD8.out.trans (hb9.mono BD8.out.size))
    have U9 := Lib.hid (U8.out.below hb9 U8.out.lt)
    have N19 := Lib.hid (N18.out.below hb9 N18.out.lt)
    have N29 := Lib.hid (N28.out.below hb9 N28.out.lt)
    have VB9 := Lib.hid (Vl.up hb9 _ (OB8.out.vl _))
    have SP9 := Lib.hid (Vl.up hb9 _ SP8.out)
    have OC9 := Lib.hid (ho9.vl _)
    clear hb9 ho9 e20 e21 e22 e23 e24
    obtain ⟨R3, hR3⟩ : ∃ R, w9.heap.size = R := ⟨_, rfl⟩
    obtain ⟨U3, hU3⟩ : ∃ U, w9.alloc (.cells #[.int .i64 0, .bool false, .string ⟨#[]⟩, .slice none 0 0, .slice none 0 0] 25) = U := ⟨_, rfl⟩
    obtain ⟨nb, nb2⟩ := newbox hR3 hU3
    obtain ⟨nb3, nb4, nb5⟩ := nb2 (.int .i64 T0.kind) (.bool T0.isB) (.string T0.text) (.slice A9 m9 c9) (.slice B9 q9 d9)
    have e0 := nb.c0; have e1 := nb.c1; have e2 := nb.c2; have e3 := nb.c3; have e4 := nb.c4
    have f0 := nb.fz 0; have f1 := nb.fz 1; have f2 := nb.fz 2; have f3 := nb.fz 3; have f4 := nb.fz 4
    obtain ⟨V3, hV3⟩ : ∃ V, put5 U3 R3 (.int .i64 T0.kind) (.bool T0.isB) (.string T0.text) (.slice A9 m9 c9) (.slice B9 q9 d9) = V := ⟨_, rfl⟩
    rw [hV3] at nb3 nb4 nb5
    have HV3 := Lib.hid hV3
    have HR3 := Lib.hid hR3
    have N3 := Lib.hid nb3
    have NB3 := Lib.hid nb4
    have NS3 := Lib.hid nb5
    clear hV3 nb nb2 nb3 nb4 nb5
    go_upto_region 7 with fail
    rw [show ((((U3.setCell ⟨R3, 0, none⟩ (.int .i64 T0.kind)).setCell ⟨R3, 1, none⟩ (.bool T0.isB)).setCell ⟨R3, 2, none⟩ (.string T0.text)).setCell ⟨R3, 3, none⟩ (.slice A9 m9 c9)).setCell ⟨R3, 4, none⟩ (.slice B9 q9 d9) = V3 from HV3.out]
    clear e0 e1 e2 e3 e4 f0 f1 f2 f3 f4 hU3
    have BV3 := Lib.hid (extV BW9.out NB3.out)
    have BD3 := Lib.hid (BD9.out.trans (NB3.out.mono BD9.out.size))
    have u := U9.out.below NB3.out U9.out.lt
    have n1 := N19.out.below NB3.out N19.out.lt
    have n2 := N29.out.below NB3.out N29.out.lt
    have KU := Lib.hid u
    have K1 := Lib.hid n1
    have K2 := Lib.hid n2
    have VA3 := Lib.hid (Vl.up BD3.out _ VV0.out)
    have VB3 := Lib.hid (Vl.up NB3.out _ VB9.out)
    have SP3 := Lib.hid (Vl.up NB3.out _ SP9.out)
    have VC3 := Lib.hid (Vl.up NB3.out _ OC9.out)
    clear hR3
    have e00 := u.c0; have e01 := u.c1; have e02 := u.c2; have e03 := u.c3; have e04 := u.c4
    have e20 := n2.c0; have e21 := n2.c1; have e22 := n2.c2; have e23 := n2.c3; have e24 := n2.c4
    clear u n1 n2
    go_wp2_with fail
    refine (equal_any T0 T0 _ _ V3 VB3.out VA3.out).mono ?_
    rintro e wa ⟨rfl, hba⟩
    rw [alk_self]
    have BVa := Lib.hid (extV BV3.out hba)
    have u := KU.out.below hba KU.out.lt
    have n1 := K1.out.below hba K1.out.lt
    have n2 := K2.out.below hba K2.out.lt
    have n3 := N3.out.below hba N3.out.lt
    have LU := Lib.hid u
    have L1 := Lib.hid n1
    have L2 := Lib.hid n2
    have VBa := Lib.hid (Vl.up hba _ VB3.out)
    have SPa := Lib.hid (Vl.up hba _ SP3.out)
    have VCa := Lib.hid (Vl.up hba _ VC3.out)
    clear hba e00 e01 e02 e03 e04 e20 e21 e22 e23 e24
    have e20 := n2.c0; have e21 := n2.c1; have e22 := n2.c2; have e23 := n2.c3; have e24 := n2.c4
    have e30 := n3.c0; have e31 := n3.c1; have e32 := n3.c2; have e33 := n3.c3; have e34 := n3.c4
    clear u n1 n2 n3
    go_wp2_with fail
    refine (equal_any T0 T0 _ _ wa VBa.out VCa.out).mono ?_
    rintro e wb ⟨rfl, hbb⟩
    rw [alk_self]
    have BVb := Lib.hid (extV BVa.out hbb)
    have u := LU.out.below hbb LU.out.lt
    have n1 := L1.out.below hbb L1.out.lt
    have n2 := L2.out.below hbb L2.out.lt
    have VBb := Lib.hid (Vl.up hbb _ VBa.out)
    have SPb := Lib.hid (Vl.up hbb _ SPa.out)
    clear hbb e20 e21 e22 e23 e24 e30 e31 e32 e33 e34
    have u3 := u.c3; have u4 := u.c4
    have e10 := n1.c0; have e11 := n1.c1; have e12 := n1.c2; have e13 := n1.c3; have e14 := n1.c4
    have e20 := n2.c0; have e21 := n2.c1; have e22 := n2.c2; have e23 := n2.c3; have e24 := n2.c4
    clear u n1 n2
    obtain ⟨hl1, hl2, hl3, hl4⟩ := hlens
    have HL := Lib.hid (And.intro hl1 hl2)
    clear hl1 hl2
    by_cases hz : n0 + q0 = 0
    · have hz1 : (n0 : Int) + (q0 : Int) = 0 := by omega
      have hz2 : ((n0 : Int) + (q0 : Int) == 0) = true := beq_iff_eq.2 hz1
      go_wp2_with fail
      refine (awake_any _ (TB.out _ BVb.out)).mono ?_
      rintro e wz ⟨rfl, hbz⟩
      have BZ := Lib.hid (extV BVb.out hbz)
      clear hbz
      go_wp2_with fail
      go_ret
      exact ⟨rfl, BZ.out⟩
    · have hz1 : ¬ (n0 : Int) + (q0 : Int) = 0 := by omega
      have hz2 : ((n0 : Int) + (q0 : Int) == 0) = false := beq_eq_false_iff_ne.2 hz1
      go_wp2_with fail
      refine (equal_any (spT T0) T0 _ _ wb SPb.out VBb.out).mono ?_
      rintro e wc ⟨rfl, hbc⟩
      rw [alk_no (spT_ne (vl_kinds HV0.out) (by
        rcases Nat.eq_zero_or_pos n0 with h | h
        · exact .inr (fun g => by have := HL.out.2; rw [g] at this; simp at this; omega)
        · exact .inl (fun g => by have := HL.out.1; rw [g] at this; simp at this; omega)))]
      have BVc := Lib.hid (extV BVb.out hbc)
      clear hbc
      go_wp2_with fail
      refine (awake_any _ (TB.out _ BVc.out)).mono ?_
      rintro e wz ⟨rfl, hbz⟩
      have BZ := Lib.hid (extV BVc.out hbz)
      clear hbz
      go_wp2_with fail
      go_ret
      exact ⟨rfl, BZ.out⟩
end Go.Proofs.YtlgeibaejeiemaaDoor
