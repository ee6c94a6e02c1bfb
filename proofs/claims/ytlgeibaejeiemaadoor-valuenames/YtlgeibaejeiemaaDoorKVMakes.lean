/-
  The walk of ValueMakes.
-/
import Derived.Test.YtlgeibaejeiemaaDoorVw
namespace Go.Proofs.YtlgeibaejeiemaaDoor
set_option linter.unusedVariables false
set_option linter.unusedSimpArgs false
open Go.RowKit
open Wd We Vt

set_option maxRecDepth 100000 in
set_option maxHeartbeats 16000000 in
theorem walk_ValueMakes (A0 : Option Addr) (n0 c0 : Nat) (l0 : List ByteArray) (A1 : Option Addr) (n1 c1 : Nat) (l1 : List Vt.Tr) (a2 : Int) (w : World) (s0 : Vt.Nm w A0 n0 c0 l0) (m0 : ∀ x ∈ l0, x.size ≤ 140737488351232) (s1 : Vt.VL w A1 n1 c1 l1) (m1 : ∀ x ∈ l1, Vt.Sm x) (w2 : (Lit.int .i64 a2).wf = true) (tab : It.Tab w) :
    Calls Tryd.prog 6 #[.slice A0 n0 c0, .slice A1 n1 c1, .int .i64 a2] w fun e w' => e = .returned (.bool true) ∧ Below w.heap.size w w' := by
  have hr2 := i64_of w2
  have TB := Lib.hid (fun (w' : World) (h : Below w.heap.size w w') => tab.below h)
  have CN := Lib.hid (fun (w' : World) (h : Below w.heap.size w w') => number_any a2 (by omega) (by omega) w' (tab.below h))
  have RN := Lib.hid (fun w' => rnumber_any a2 (by omega) (by omega) w')
  have HVN : Hid (∀ w', Vl w' (.agg #[.int .i64 2, .bool false, .string (numT a2), .slice none 0 0, .slice none 0 0]) (num a2)) := Lib.hid (fun w' => vl_num w' (by omega) (by omega))
  obtain ⟨sn, hsn⟩ : ∃ s, numT a2 = s := ⟨_, rfl⟩
  rw [hsn] at CN RN HVN
  have CL := Lib.hid (fun (w' : World) (h : Below w.heap.size w w') => (vlist_any A1 n1 c1 l1 w' (s1.below h)).mono (fun _ _ hh => lsP hh))
  have RL := Lib.hid (fun (w' : World) (h : Below w.heap.size w w') => (rlist_any A1 n1 c1 l1 w' (s1.below h)).mono (fun _ _ hh => lsP hh))
  obtain ⟨ta, hta⟩ : ∃ t, mkT l1 l0 = t := ⟨_, rfl⟩
  obtain ⟨er, her⟩ : ∃ t, mkE l1 l0 = t := ⟨_, rfl⟩
  have CM : Hid (∀ w', Below w.heap.size w w' → Calls Tryd.prog 27 #[.slice A0 n0 c0, .slice A1 n1 c1] w' (MkR ta er w')) := Lib.hid (fun w' h => (vmake_any A1 n1 c1 l1 A0 n0 c0 l0 w' (s1.below h) (s0.below h)).mono (fun e w'' hh => by rw [← hta, ← her]; exact mkR hh))
  have RM : Hid (∀ w', Below w.heap.size w w' → Calls Tryd.prog 28 #[.slice A0 n0 c0, .slice A1 n1 c1] w' (MkR ta er w')) := Lib.hid (fun w' h => (rmake_any A1 n1 c1 l1 A0 n0 c0 l0 w' (s1.below h) (s0.below h)).mono (fun e w'' hh => by rw [← hta, ← her]; exact mkR hh))
  have SMA : Hid (Sm ta) := Lib.hid (by rw [← hta]; exact sm_make m1 m0)
  have SMW : Hid (Sm (.mk 4 false ⟨#[]⟩ l1 [])) := Lib.hid (Sm.mk (fun x hx => by cases hx) m1)
  have HN0 := Lib.hid s0
  have HM0 := Lib.hid m0
  have CT := Lib.hid (deepList_any _ _ _ _ w s1)
  have hn0 : n0 ≤ 8796093022208 := by have := s0.small; omega
  clear tab s0 s1 m0 m1 w2 hta her hsn
  go_enter Tryd.func6, Tryd.ntmps6
  go_wp2_with fail
  refine CT.out.mono ?_
  rintro e w3 ⟨rfl, hb3⟩
  have BW3 := Lib.hid hb3
  clear hb3
  cases hdp : dpL l1 991 with
  | true =>
    clear hdp
    go_wp2_with fail
    refine (awake_any _ (TB.out _ BW3.out)).mono ?_
    rintro e wz ⟨rfl, hbz⟩
    have BZ := Lib.hid (extV BW3.out hbz)
    clear hbz
    go_wp2_with fail
    go_ret
    exact ⟨rfl, BZ.out⟩
  | false =>
    clear hdp
    go_wp2_with fail
    refine (RL.out w3 BW3.out).mono ?_
    rintro e w4 ⟨A4, m4, c4, B4, q4, d4, rfl, hb4, ho4⟩
    have BW4 := Lib.hid (extV BW3.out hb4)
    have OW4 := Lib.hid ho4
    have S4 := Lib.hid hb4.size
    clear hb4 ho4
    obtain ⟨R1, hR1⟩ : ∃ R, w4.heap.size = R := ⟨_, rfl⟩
    obtain ⟨U1, hU1⟩ : ∃ U, w4.alloc (.cells #[.int .i64 0, .bool false, .string ⟨#[]⟩, .slice none 0 0, .slice none 0 0] 25) = U := ⟨_, rfl⟩
    obtain ⟨nb, nb2⟩ := newbox hR1 hU1
    obtain ⟨nb3, nb4, nb5⟩ := nb2 (.int .i64 4) (.bool false) (.string ⟨#[]⟩) (.slice A4 m4 c4) (.slice B4 q4 d4)
    have e0 := nb.c0; have e1 := nb.c1; have e2 := nb.c2; have e3 := nb.c3; have e4 := nb.c4
    have f0 := nb.fz 0; have f1 := nb.fz 1; have f2 := nb.fz 2; have f3 := nb.fz 3; have f4 := nb.fz 4
    obtain ⟨V1, hV1⟩ : ∃ V, put5 U1 R1 (.int .i64 4) (.bool false) (.string ⟨#[]⟩) (.slice A4 m4 c4) (.slice B4 q4 d4) = V := ⟨_, rfl⟩
    rw [hV1] at nb3 nb4 nb5
    have HV1 := Lib.hid hV1
    have HR1 := Lib.hid hR1
    have N1 := Lib.hid nb3
    have NB1 := Lib.hid nb4
    have NS1 := Lib.hid nb5
    clear hV1 nb nb2 nb3 nb4 nb5
    go_upto_region 4 with fail
    rw [show ((((U1.setCell ⟨R1, 0, none⟩ (.int .i64 4)).setCell ⟨R1, 1, none⟩ (.bool false)).setCell ⟨R1, 2, none⟩ (.string ⟨#[]⟩)).setCell ⟨R1, 3, none⟩ (.slice A4 m4 c4)).setCell ⟨R1, 4, none⟩ (.slice B4 q4 d4) = V1 from HV1.out]
    clear e0 e1 e2 e3 e4 f0 f1 f2 f3 f4 hU1
    have BV1 := Lib.hid (extV BW4.out NB1.out)
    have OWV := Lib.hid (OW4.out.kept _ (fun x hx => NB1.out.block x hx.2))
    clear hR1
    go_wp2_with fail
    refine (CM.out V1 BV1.out).mono ?_
    rintro e w5 ⟨A5, m5, c5, B5, q5, d5, rfl, hb5, ho5⟩
    have BW5 := Lib.hid (extV BV1.out hb5)
    have OW5 := Lib.hid (OWV.out.kept _ (fun x hx => hb5.block x (by have := NS1.out; have := HR1.out; omega)))
    have N15 := Lib.hid (N1.out.below hb5 N1.out.lt)
    have OA5 := Lib.hid ho5
    have S5 := Lib.hid hb5.size
    clear hb5 ho5
    obtain ⟨R2, hR2⟩ : ∃ R, w5.heap.size = R := ⟨_, rfl⟩
    obtain ⟨U2, hU2⟩ : ∃ U, w5.alloc (.cells #[.int .i64 0, .bool false, .string ⟨#[]⟩, .slice none 0 0, .slice none 0 0] 25) = U := ⟨_, rfl⟩
    obtain ⟨nb, nb2⟩ := newbox hR2 hU2
    obtain ⟨nb3, nb4, nb5⟩ := nb2 (.int .i64 ta.kind) (.bool ta.isB) (.string ta.text) (.slice A5 m5 c5) (.slice B5 q5 d5)
    have e0 := nb.c0; have e1 := nb.c1; have e2 := nb.c2; have e3 := nb.c3; have e4 := nb.c4
    have f0 := nb.fz 0; have f1 := nb.fz 1; have f2 := nb.fz 2; have f3 := nb.fz 3; have f4 := nb.fz 4
    obtain ⟨V2, hV2⟩ : ∃ V, put5 U2 R2 (.int .i64 ta.kind) (.bool ta.isB) (.string ta.text) (.slice A5 m5 c5) (.slice B5 q5 d5) = V := ⟨_, rfl⟩
    rw [hV2] at nb3 nb4 nb5
    have HV2 := Lib.hid hV2
    have HR2 := Lib.hid hR2
    have N2 := Lib.hid nb3
    have NB2 := Lib.hid nb4
    have NS2 := Lib.hid nb5
    clear hV2 nb nb2 nb3 nb4 nb5
    go_upto_region 5 with fail
    rw [show ((((U2.setCell ⟨R2, 0, none⟩ (.int .i64 ta.kind)).setCell ⟨R2, 1, none⟩ (.bool ta.isB)).setCell ⟨R2, 2, none⟩ (.string ta.text)).setCell ⟨R2, 3, none⟩ (.slice A5 m5 c5)).setCell ⟨R2, 4, none⟩ (.slice B5 q5 d5) = V2 from HV2.out]
    clear e0 e1 e2 e3 e4 f0 f1 f2 f3 f4 hU2
    have BV2 := Lib.hid (extV BW5.out NB2.out)
    have N16 := Lib.hid (N15.out.below NB2.out N15.out.lt)
    have OW6 := Lib.hid (OW5.out.kept _ (fun x hx => NB2.out.block x (by have := NS1.out; have := HR1.out; have := S5.out; omega)))
    have OA6 := Lib.hid (OA5.out.kept _ (fun x hx => NB2.out.block x hx.2))
    clear hR2
    go_wp2_with fail
    refine (RM.out V2 BV2.out).mono ?_
    rintro e w6 ⟨A6, m6, c6, B6, q6, d6, rfl, hb6, ho6⟩
    have BW6 := Lib.hid (extV BV2.out hb6)
    have N17 := Lib.hid (N16.out.below hb6 N16.out.lt)
    have N27 := Lib.hid (N2.out.below hb6 N2.out.lt)
    have OW7 := Lib.hid (OW6.out.kept _ (fun x hx => hb6.block x (by have := NS1.out; have := HR1.out; have := S5.out; have := NS2.out; have := HR2.out; omega)))
    have OA7 := Lib.hid (OA6.out.kept _ (fun x hx => hb6.block x (by have := NS2.out; have := HR2.out; omega)))
    have VB7 := Lib.hid (ho6.vl _)
    have S6 := Lib.hid hb6.size
    clear hb6 ho6
    obtain ⟨R3, hR3⟩ : ∃ R, w6.heap.size = R := ⟨_, rfl⟩
    obtain ⟨U3, hU3⟩ : ∃ U, w6.alloc (.cells #[.int .i64 0, .bool false, .string ⟨#[]⟩, .slice none 0 0, .slice none 0 0] 25) = U := ⟨_, rfl⟩
    obtain ⟨nb, nb2⟩ := newbox hR3 hU3
    obtain ⟨nb3, nb4, nb5⟩ := nb2 (.int .i64 ta.kind) (.bool ta.isB) (.string ta.text) (.slice A6 m6 c6) (.slice B6 q6 d6)
    have e0 := nb.c0; have e1 := nb.c1; have e2 := nb.c2; have e3 := nb.c3; have e4 := nb.c4
    have f0 := nb.fz 0; have f1 := nb.fz 1; have f2 := nb.fz 2; have f3 := nb.fz 3; have f4 := nb.fz 4
    obtain ⟨V3, hV3⟩ : ∃ V, put5 U3 R3 (.int .i64 ta.kind) (.bool ta.isB) (.string ta.text) (.slice A6 m6 c6) (.slice B6 q6 d6) = V := ⟨_, rfl⟩
    rw [hV3] at nb3 nb4 nb5
    have HV3 := Lib.hid hV3
    have HR3 := Lib.hid hR3
    have N3 := Lib.hid nb3
    have NB3 := Lib.hid nb4
    have NS3 := Lib.hid nb5
    clear hV3 nb nb2 nb3 nb4 nb5
    go_upto_region 6 with fail
    rw [show ((((U3.setCell ⟨R3, 0, none⟩ (.int .i64 ta.kind)).setCell ⟨R3, 1, none⟩ (.bool ta.isB)).setCell ⟨R3, 2, none⟩ (.string ta.text)).setCell ⟨R3, 3, none⟩ (.slice A6 m6 c6)).setCell ⟨R3, 4, none⟩ (.slice B6 q6 d6) = V3 from HV3.out]
    clear e0 e1 e2 e3 e4 f0 f1 f2 f3 f4 hU3
    have BV3 := Lib.hid (extV BW6.out NB3.out)
    have N18 := Lib.hid (N17.out.below NB3.out N17.out.lt)
    have N28 := Lib.hid (N27.out.below NB3.out N27.out.lt)
    have SZ : Hid (w3.heap.size ≤ w4.heap.size ∧ w4.heap.size = R1 ∧ V1.heap.size = R1 + 1 ∧ V1.heap.size ≤ w5.heap.size ∧ w5.heap.size = R2 ∧ V2.heap.size = R2 + 1 ∧ V2.heap.size ≤ w6.heap.size ∧ w6.heap.size = R3 ∧ V3.heap.size = R3 + 1) := Lib.hid ⟨S4.out, HR1.out, NS1.out, S5.out, HR2.out, NS2.out, S6.out, HR3.out, NS3.out⟩
    have OW8 := Lib.hid (OW7.out.kept _ (fun x hx => NB3.out.block x (by have := SZ.out; omega)))
    have OA8 := Lib.hid (OA7.out.kept _ (fun x hx => NB3.out.block x (by have := SZ.out; omega)))
    have VB8 := Lib.hid (Vl.up NB3.out _ VB7.out)
    clear hR3
    go_wp2_with fail
    refine (CL.out V3 BV3.out).mono ?_
    rintro e w7 ⟨A7, m7, c7, B7, q7, d7, rfl, hb7, ho7⟩
    have BW7 := Lib.hid (extV BV3.out hb7)
    have HB7 := Lib.hid hb7
    have OC7 := Lib.hid ho7
    clear hb7 ho7
    go_wp2_with fail
    refine (CN.out w7 BW7.out).mono ?_
    rintro e w8 ⟨rfl, hb8⟩
    have BW8 := Lib.hid (extV BW7.out hb8)
    have HB8 := Lib.hid hb8
    clear hb8
    obtain ⟨R4, hR4⟩ : ∃ R, w8.heap.size = R := ⟨_, rfl⟩
    obtain ⟨R5, hR5⟩ : ∃ R, R4 + 1 = R := ⟨_, rfl⟩
    have hneA : ¬ R4 = R5 := by omega
    have hneB : ¬ R5 = R4 := by omega
    obtain ⟨UA, hUA⟩ : ∃ U, w8.alloc (.cells #[.int .i64 0, .bool false, .string ⟨#[]⟩, .slice none 0 0, .slice none 0 0] 25) = U := ⟨_, rfl⟩
    have hsUA : UA.heap.size = R5 := by rw [← hUA, World.size_alloc, hR4, hR5]
    obtain ⟨UB, hUB⟩ : ∃ U, UA.alloc (.cells #[.int .i64 0, .bool false, .string ⟨#[]⟩, .slice none 0 0, .slice none 0 0] 25) = U := ⟨_, rfl⟩
    obtain ⟨nb1, nb2, nb3, nb4, nb5, nb6, nb7⟩ := newboxes hR4 hR5 hUA hUB (.int .i64 4) (.bool false) (.string ⟨#[]⟩) (.slice A7 m7 c7) (.slice B7 q7 d7) (.int .i64 2) (.bool false) (.string sn) (.slice none 0 0) (.slice none 0 0)
    have hqq : put5 UB R4 (.int .i64 4) (.bool false) (.string ⟨#[]⟩) (.slice A7 m7 c7) (.slice B7 q7 d7) = ((((UB.setCell ⟨R4, 0, none⟩ (.int .i64 4)).setCell ⟨R4, 1, none⟩ (.bool false)).setCell ⟨R4, 2, none⟩ (.string ⟨#[]⟩)).setCell ⟨R4, 3, none⟩ (.slice A7 m7 c7)).setCell ⟨R4, 4, none⟩ (.slice B7 q7 d7) := rfl
    rw [hqq] at nb3
    have e10 := nb1.c0; have e11 := nb1.c1; have e12 := nb1.c2; have e13 := nb1.c3; have e14 := nb1.c4
    have e20 := nb2.c0; have e21 := nb2.c1; have e22 := nb2.c2; have e23 := nb2.c3; have e24 := nb2.c4
    have e30 := nb3.c0; have e31 := nb3.c1; have e32 := nb3.c2; have e33 := nb3.c3; have e34 := nb3.c4
    have f10 := nb1.fz 0; have f20 := nb2.fz 0; have f30 := nb3.fz 0; have f11 := nb1.fz 1; have f21 := nb2.fz 1; have f31 := nb3.fz 1; have f12 := nb1.fz 2; have f22 := nb2.fz 2; have f32 := nb3.fz 2; have f13 := nb1.fz 3; have f23 := nb2.fz 3; have f33 := nb3.fz 3; have f14 := nb1.fz 4; have f24 := nb2.fz 4; have f34 := nb3.fz 4
    obtain ⟨VB, hVB⟩ : ∃ V, put5 (put5 UB R4 (.int .i64 4) (.bool false) (.string ⟨#[]⟩) (.slice A7 m7 c7) (.slice B7 q7 d7)) R5 (.int .i64 2) (.bool false) (.string sn) (.slice none 0 0) (.slice none 0 0) = V := ⟨_, rfl⟩
    rw [hVB] at nb4 nb5 nb6 nb7
    have HVB := Lib.hid hVB
    have N4 := Lib.hid nb4
    have N5 := Lib.hid nb5
    have NBB := Lib.hid nb6
    have NSB := Lib.hid nb7
    have HR4 := Lib.hid hR4
    have HR5 := Lib.hid hR5
    clear nb1 nb2 nb3 nb4 nb5 nb6 nb7 hVB hqq hR5
    go_upto_region 7 with fail
    rw [show (((((((((UB.setCell ⟨R4, 0, none⟩ (.int .i64 4)).setCell ⟨R4, 1, none⟩ (.bool false)).setCell ⟨R4, 2, none⟩ (.string ⟨#[]⟩)).setCell ⟨R4, 3, none⟩ (.slice A7 m7 c7)).setCell ⟨R4, 4, none⟩ (.slice B7 q7 d7)).setCell ⟨R5, 0, none⟩ (.int .i64 2)).setCell ⟨R5, 1, none⟩ (.bool false)).setCell ⟨R5, 2, none⟩ (.string sn)).setCell ⟨R5, 3, none⟩ (.slice none 0 0)).setCell ⟨R5, 4, none⟩ (.slice none 0 0) = VB from HVB.out]
    clear hUA hUB hneA hneB
    clear e10 e11 e12 e13 e14 e20 e21 e22 e23 e24 e30 e31 e32 e33 e34 f10 f11 f12 f13 f14 f20 f21 f22 f23 f24 f30 f31 f32 f33 f34
    have BVB := Lib.hid (extV BW8.out NBB.out)
    have H38 : Below V3.heap.size V3 VB := extV HB7.out (extV HB8.out NBB.out)
    have p1 := N18.out.below H38 N18.out.lt
    have p2 := N28.out.below H38 N28.out.lt
    have p3 := N3.out.below H38 N3.out.lt
    have p4 := N4.out
    have p5 := N5.out
    have SY : Hid (V3.heap.size ≤ w7.heap.size ∧ w7.heap.size ≤ w8.heap.size ∧ w8.heap.size = R4 ∧ R4 + 1 = R5 ∧ VB.heap.size = R5 + 1) := Lib.hid ⟨HB7.out.size, HB8.out.size, HR4.out, HR5.out, NSB.out⟩
    have ow := OW8.out.kept _ (fun x hx => H38.block x (by have := SZ.out; omega))
    have oa := OA8.out.kept _ (fun x hx => H38.block x (by have := SZ.out; omega))
    have oc := OC7.out.kept _ (fun x hx => (extV HB8.out NBB.out).block x hx.2)
    have OWB := Lib.hid ow
    have OAB := Lib.hid oa
    have OCB := Lib.hid oc
    have hvw := ow.vl _
    have hva := oa.vl _
    have hvc := oc.vl _
    have hvb := Vl.up H38 _ VB8.out
    clear ow oa oc hR4 H38
    have HSS : Bx VB.drew R1 (.int .i64 4) (.bool false) (.string ⟨#[]⟩) (.slice A4 m4 c4) (.slice B4 q4 d4) ∧ Bx VB.drew R2 (.int .i64 ta.kind) (.bool ta.isB) (.string ta.text) (.slice A5 m5 c5) (.slice B5 q5 d5) ∧ Bx VB.drew R3 (.int .i64 ta.kind) (.bool ta.isB) (.string ta.text) (.slice A6 m6 c6) (.slice B6 q6 d6) ∧ Bx VB.drew R4 (.int .i64 4) (.bool false) (.string ⟨#[]⟩) (.slice A7 m7 c7) (.slice B7 q7 d7) ∧ Bx VB.drew R5 (.int .i64 2) (.bool false) (.string sn) (.slice none 0 0) (.slice none 0 0) := ⟨Bx.same p1 rfl, Bx.same p2 rfl, Bx.same p3 rfl, Bx.same p4 rfl, Bx.same p5 rfl⟩
    refine region_calm (fun w' => Bx w' R1 (.int .i64 4) (.bool false) (.string ⟨#[]⟩) (.slice A4 m4 c4) (.slice B4 q4 d4) ∧ Bx w' R2 (.int .i64 ta.kind) (.bool ta.isB) (.string ta.text) (.slice A5 m5 c5) (.slice B5 q5 d5) ∧ Bx w' R3 (.int .i64 ta.kind) (.bool ta.isB) (.string ta.text) (.slice A6 m6 c6) (.slice B6 q6 d6) ∧ Bx w' R4 (.int .i64 4) (.bool false) (.string ⟨#[]⟩) (.slice A7 m7 c7) (.slice B7 q7 d7) ∧ Bx w' R5 (.int .i64 2) (.bool false) (.string sn) (.slice none 0 0) (.slice none 0 0)) [0, 4, 10, 16] (by kernel_rfl) ?_
    have rk0 : Below VB.heap.size VB VB.drew := ⟨rfl, rfl, rfl, Nat.le_refl _, fun _ _ => rfl⟩
    refine any_takeD 0 37 (.int .i64 er) rfl rfl (by kernel_rfl) (by kernel_rfl) (by kernel_rfl) (by kernel_rfl) (fun _ _ _ h => h) (by rfl) ?_ HSS ?_
    · intro w' hS
      obtain ⟨za, zb, zc, zd, ze⟩ := hS
      have za_0 := za.c0; have za_1 := za.c1; have za_2 := za.c2; have za_3 := za.c3; have za_4 := za.c4
      have zb_0 := zb.c0; have zb_1 := zb.c1; have zb_2 := zb.c2; have zb_3 := zb.c3; have zb_4 := zb.c4
      have zc_0 := zc.c0; have zc_1 := zc.c1; have zc_2 := zc.c2; have zc_3 := zc.c3; have zc_4 := zc.c4
      have zd_0 := zd.c0; have zd_1 := zd.c1; have zd_2 := zd.c2; have zd_3 := zd.c3; have zd_4 := zd.c4
      have ze_0 := ze.c0; have ze_1 := ze.c1; have ze_2 := ze.c2; have ze_3 := ze.c3; have ze_4 := ze.c4
      go_simp
    simp only [Act.put, List.setIfInBounds_toArray, List.set_cons_zero, List.set_cons_succ]
    refine any_runD 1 38 (.int .i64 er) VB.drew (by kernel_rfl) rfl rfl (by rfl) ?_ (.inr HSS) ?_
    · obtain ⟨za, zb, zc, zd, ze⟩ := HSS
      have za_0 := za.c0; have za_1 := za.c1; have za_2 := za.c2; have za_3 := za.c3; have za_4 := za.c4
      have zb_0 := zb.c0; have zb_1 := zb.c1; have zb_2 := zb.c2; have zb_3 := zb.c3; have zb_4 := zb.c4
      have zc_0 := zc.c0; have zc_1 := zc.c1; have zc_2 := zc.c2; have zc_3 := zc.c3; have zc_4 := zc.c4
      have zd_0 := zd.c0; have zd_1 := zd.c1; have zd_2 := zd.c2; have zd_3 := zd.c3; have zd_4 := zd.c4
      have ze_0 := ze.c0; have ze_1 := ze.c1; have ze_2 := ze.c2; have ze_3 := ze.c3; have ze_4 := ze.c4
      go_simp
    simp only [Act.put, List.setIfInBounds_toArray, List.set_cons_zero, List.set_cons_succ]
    refine any_runD 2 39 (.bool false) VB.drew (by kernel_rfl) rfl rfl (by rfl) ?_ (.inr HSS) ?_
    · obtain ⟨za, zb, zc, zd, ze⟩ := HSS
      have za_0 := za.c0; have za_1 := za.c1; have za_2 := za.c2; have za_3 := za.c3; have za_4 := za.c4
      have zb_0 := zb.c0; have zb_1 := zb.c1; have zb_2 := zb.c2; have zb_3 := zb.c3; have zb_4 := zb.c4
      have zc_0 := zc.c0; have zc_1 := zc.c1; have zc_2 := zc.c2; have zc_3 := zc.c3; have zc_4 := zc.c4
      have zd_0 := zd.c0; have zd_1 := zd.c1; have zd_2 := zd.c2; have zd_3 := zd.c3; have zd_4 := zd.c4
      have ze_0 := ze.c0; have ze_1 := ze.c1; have ze_2 := ze.c2; have ze_3 := ze.c3; have ze_4 := ze.c4
      go_simp
    simp only [Act.put, List.setIfInBounds_toArray, List.set_cons_zero, List.set_cons_succ]
    refine any_runD 3 40 (.bool false) VB.drew (by kernel_rfl) rfl rfl (by rfl) ?_ (.inr HSS) ?_
    · obtain ⟨za, zb, zc, zd, ze⟩ := HSS
      have za_0 := za.c0; have za_1 := za.c1; have za_2 := za.c2; have za_3 := za.c3; have za_4 := za.c4
      have zb_0 := zb.c0; have zb_1 := zb.c1; have zb_2 := zb.c2; have zb_3 := zb.c3; have zb_4 := zb.c4
      have zc_0 := zc.c0; have zc_1 := zc.c1; have zc_2 := zc.c2; have zc_3 := zc.c3; have zc_4 := zc.c4
      have zd_0 := zd.c0; have zd_1 := zd.c1; have zd_2 := zd.c2; have zd_3 := zd.c3; have zd_4 := zd.c4
      have ze_0 := ze.c0; have ze_1 := ze.c1; have ze_2 := ze.c2; have ze_3 := ze.c3; have ze_4 := ze.c4
      go_simp
    simp only [Act.put, List.setIfInBounds_toArray, List.set_cons_zero, List.set_cons_succ]
    refine any_takeD 4 41 (.agg #[.int .i64 ta.kind, .bool ta.isB, .string ta.text, .slice A5 m5 c5, .slice B5 q5 d5]) rfl rfl (by kernel_rfl) (by kernel_rfl) (by kernel_rfl) (by kernel_rfl) (fun _ _ _ h => h) (by rfl) ?_ HSS ?_
    · intro w' hS
      obtain ⟨za, zb, zc, zd, ze⟩ := hS
      have za_0 := za.c0; have za_1 := za.c1; have za_2 := za.c2; have za_3 := za.c3; have za_4 := za.c4
      have zb_0 := zb.c0; have zb_1 := zb.c1; have zb_2 := zb.c2; have zb_3 := zb.c3; have zb_4 := zb.c4
      have zc_0 := zc.c0; have zc_1 := zc.c1; have zc_2 := zc.c2; have zc_3 := zc.c3; have zc_4 := zc.c4
      have zd_0 := zd.c0; have zd_1 := zd.c1; have zd_2 := zd.c2; have zd_3 := zd.c3; have zd_4 := zd.c4
      have ze_0 := ze.c0; have ze_1 := ze.c1; have ze_2 := ze.c2; have ze_3 := ze.c3; have ze_4 := ze.c4
      go_simp
    simp only [Act.put, List.setIfInBounds_toArray, List.set_cons_zero, List.set_cons_succ]
    refine any_runD 5 42 (.agg #[.int .i64 ta.kind, .bool ta.isB, .string ta.text, .slice A6 m6 c6, .slice B6 q6 d6]) VB.drew (by kernel_rfl) rfl rfl (by rfl) ?_ (.inr HSS) ?_
    · obtain ⟨za, zb, zc, zd, ze⟩ := HSS
      have za_0 := za.c0; have za_1 := za.c1; have za_2 := za.c2; have za_3 := za.c3; have za_4 := za.c4
      have zb_0 := zb.c0; have zb_1 := zb.c1; have zb_2 := zb.c2; have zb_3 := zb.c3; have zb_4 := zb.c4
      have zc_0 := zc.c0; have zc_1 := zc.c1; have zc_2 := zc.c2; have zc_3 := zc.c3; have zc_4 := zc.c4
      have zd_0 := zd.c0; have zd_1 := zd.c1; have zd_2 := zd.c2; have zd_3 := zd.c3; have zd_4 := zd.c4
      have ze_0 := ze.c0; have ze_1 := ze.c1; have ze_2 := ze.c2; have ze_3 := ze.c3; have ze_4 := ze.c4
      go_simp
    simp only [Act.put, List.setIfInBounds_toArray, List.set_cons_zero, List.set_cons_succ]
    refine any_callV 6 43 (by kernel_rfl) rfl rfl (by rfl) (fn := 20) (args := #[.agg #[.int .i64 ta.kind, .bool ta.isB, .string ta.text, .slice A5 m5 c5, .slice B5 q5 d5], .agg #[.int .i64 ta.kind, .bool ta.isB, .string ta.text, .slice A6 m6 c6, .slice B6 q6 d6]]) ?_ (requal_any ta ta _ _ VB.drew (Vl.up rk0 _ hva) (Vl.up rk0 _ hvb)) ?_
    · go_simp
    rintro e r1 ⟨rfl, hr1⟩
    have rk1 := extV rk0 hr1
    rw [alk_self]
    have HSS : Bx r1 R1 (.int .i64 4) (.bool false) (.string ⟨#[]⟩) (.slice A4 m4 c4) (.slice B4 q4 d4) ∧ Bx r1 R2 (.int .i64 ta.kind) (.bool ta.isB) (.string ta.text) (.slice A5 m5 c5) (.slice B5 q5 d5) ∧ Bx r1 R3 (.int .i64 ta.kind) (.bool ta.isB) (.string ta.text) (.slice A6 m6 c6) (.slice B6 q6 d6) ∧ Bx r1 R4 (.int .i64 4) (.bool false) (.string ⟨#[]⟩) (.slice A7 m7 c7) (.slice B7 q7 d7) ∧ Bx r1 R5 (.int .i64 2) (.bool false) (.string sn) (.slice none 0 0) (.slice none 0 0) := ⟨HSS.1.below hr1 HSS.1.lt, HSS.2.1.below hr1 HSS.2.1.lt, HSS.2.2.1.below hr1 HSS.2.2.1.lt, HSS.2.2.2.1.below hr1 HSS.2.2.2.1.lt, HSS.2.2.2.2.below hr1 HSS.2.2.2.2.lt⟩
    refine ⟨_, rfl, .inr HSS, ?_⟩
    simp only [Act.put, List.setIfInBounds_toArray, List.set_cons_zero, List.set_cons_succ]
    refine any_runD 7 44 (.bool false) r1 (by kernel_rfl) rfl rfl (by rfl) ?_ (.inr HSS) ?_
    · obtain ⟨za, zb, zc, zd, ze⟩ := HSS
      have za_0 := za.c0; have za_1 := za.c1; have za_2 := za.c2; have za_3 := za.c3; have za_4 := za.c4
      have zb_0 := zb.c0; have zb_1 := zb.c1; have zb_2 := zb.c2; have zb_3 := zb.c3; have zb_4 := zb.c4
      have zc_0 := zc.c0; have zc_1 := zc.c1; have zc_2 := zc.c2; have zc_3 := zc.c3; have zc_4 := zc.c4
      have zd_0 := zd.c0; have zd_1 := zd.c1; have zd_2 := zd.c2; have zd_3 := zd.c3; have zd_4 := zd.c4
      have ze_0 := ze.c0; have ze_1 := ze.c1; have ze_2 := ze.c2; have ze_3 := ze.c3; have ze_4 := ze.c4
      go_simp
    simp only [Act.put, List.setIfInBounds_toArray, List.set_cons_zero, List.set_cons_succ]
    refine any_runD 8 45 (.bool false) r1 (by kernel_rfl) rfl rfl (by rfl) ?_ (.inr HSS) ?_
    · obtain ⟨za, zb, zc, zd, ze⟩ := HSS
      have za_0 := za.c0; have za_1 := za.c1; have za_2 := za.c2; have za_3 := za.c3; have za_4 := za.c4
      have zb_0 := zb.c0; have zb_1 := zb.c1; have zb_2 := zb.c2; have zb_3 := zb.c3; have zb_4 := zb.c4
      have zc_0 := zc.c0; have zc_1 := zc.c1; have zc_2 := zc.c2; have zc_3 := zc.c3; have zc_4 := zc.c4
      have zd_0 := zd.c0; have zd_1 := zd.c1; have zd_2 := zd.c2; have zd_3 := zd.c3; have zd_4 := zd.c4
      have ze_0 := ze.c0; have ze_1 := ze.c1; have ze_2 := ze.c2; have ze_3 := ze.c3; have ze_4 := ze.c4
      go_simp
    simp only [Act.put, List.setIfInBounds_toArray, List.set_cons_zero, List.set_cons_succ]
    refine any_runD 9 46 (.bool false) r1 (by kernel_rfl) rfl rfl (by rfl) ?_ (.inr HSS) ?_
    · obtain ⟨za, zb, zc, zd, ze⟩ := HSS
      have za_0 := za.c0; have za_1 := za.c1; have za_2 := za.c2; have za_3 := za.c3; have za_4 := za.c4
      have zb_0 := zb.c0; have zb_1 := zb.c1; have zb_2 := zb.c2; have zb_3 := zb.c3; have zb_4 := zb.c4
      have zc_0 := zc.c0; have zc_1 := zc.c1; have zc_2 := zc.c2; have zc_3 := zc.c3; have zc_4 := zc.c4
      have zd_0 := zd.c0; have zd_1 := zd.c1; have zd_2 := zd.c2; have zd_3 := zd.c3; have zd_4 := zd.c4
      have ze_0 := ze.c0; have ze_1 := ze.c1; have ze_2 := ze.c2; have ze_3 := ze.c3; have ze_4 := ze.c4
      go_simp
    simp only [Act.put, List.setIfInBounds_toArray, List.set_cons_zero, List.set_cons_succ]
    refine any_takeD 10 47 (.agg #[.int .i64 4, .bool false, .string ⟨#[]⟩, .slice A7 m7 c7, .slice B7 q7 d7]) rfl rfl (by kernel_rfl) (by kernel_rfl) (by kernel_rfl) (by kernel_rfl) (fun _ _ _ h => h) (by rfl) ?_ HSS ?_
    · intro w' hS
      obtain ⟨za, zb, zc, zd, ze⟩ := hS
      have za_0 := za.c0; have za_1 := za.c1; have za_2 := za.c2; have za_3 := za.c3; have za_4 := za.c4
      have zb_0 := zb.c0; have zb_1 := zb.c1; have zb_2 := zb.c2; have zb_3 := zb.c3; have zb_4 := zb.c4
      have zc_0 := zc.c0; have zc_1 := zc.c1; have zc_2 := zc.c2; have zc_3 := zc.c3; have zc_4 := zc.c4
      have zd_0 := zd.c0; have zd_1 := zd.c1; have zd_2 := zd.c2; have zd_3 := zd.c3; have zd_4 := zd.c4
      have ze_0 := ze.c0; have ze_1 := ze.c1; have ze_2 := ze.c2; have ze_3 := ze.c3; have ze_4 := ze.c4
      go_simp
    simp only [Act.put, List.setIfInBounds_toArray, List.set_cons_zero, List.set_cons_succ]
    refine any_runD 11 48 (.agg #[.int .i64 4, .bool false, .string ⟨#[]⟩, .slice A4 m4 c4, .slice B4 q4 d4]) r1 (by kernel_rfl) rfl rfl (by rfl) ?_ (.inr HSS) ?_
    · obtain ⟨za, zb, zc, zd, ze⟩ := HSS
      have za_0 := za.c0; have za_1 := za.c1; have za_2 := za.c2; have za_3 := za.c3; have za_4 := za.c4
      have zb_0 := zb.c0; have zb_1 := zb.c1; have zb_2 := zb.c2; have zb_3 := zb.c3; have zb_4 := zb.c4
      have zc_0 := zc.c0; have zc_1 := zc.c1; have zc_2 := zc.c2; have zc_3 := zc.c3; have zc_4 := zc.c4
      have zd_0 := zd.c0; have zd_1 := zd.c1; have zd_2 := zd.c2; have zd_3 := zd.c3; have zd_4 := zd.c4
      have ze_0 := ze.c0; have ze_1 := ze.c1; have ze_2 := ze.c2; have ze_3 := ze.c3; have ze_4 := ze.c4
      go_simp
    simp only [Act.put, List.setIfInBounds_toArray, List.set_cons_zero, List.set_cons_succ]
    refine any_callV 12 49 (by kernel_rfl) rfl rfl (by rfl) (fn := 20) (args := #[.agg #[.int .i64 4, .bool false, .string ⟨#[]⟩, .slice A7 m7 c7, .slice B7 q7 d7], .agg #[.int .i64 4, .bool false, .string ⟨#[]⟩, .slice A4 m4 c4, .slice B4 q4 d4]]) ?_ (requal_any (.mk 4 false ⟨#[]⟩ l1 []) (.mk 4 false ⟨#[]⟩ l1 []) _ _ r1 (Vl.up rk1 _ hvc) (Vl.up rk1 _ hvw)) ?_
    · go_simp
    rintro e r2 ⟨rfl, hr2⟩
    have rk2 := extV rk1 hr2
    rw [alk_self]
    have HSS : Bx r2 R1 (.int .i64 4) (.bool false) (.string ⟨#[]⟩) (.slice A4 m4 c4) (.slice B4 q4 d4) ∧ Bx r2 R2 (.int .i64 ta.kind) (.bool ta.isB) (.string ta.text) (.slice A5 m5 c5) (.slice B5 q5 d5) ∧ Bx r2 R3 (.int .i64 ta.kind) (.bool ta.isB) (.string ta.text) (.slice A6 m6 c6) (.slice B6 q6 d6) ∧ Bx r2 R4 (.int .i64 4) (.bool false) (.string ⟨#[]⟩) (.slice A7 m7 c7) (.slice B7 q7 d7) ∧ Bx r2 R5 (.int .i64 2) (.bool false) (.string sn) (.slice none 0 0) (.slice none 0 0) := ⟨HSS.1.below hr2 HSS.1.lt, HSS.2.1.below hr2 HSS.2.1.lt, HSS.2.2.1.below hr2 HSS.2.2.1.lt, HSS.2.2.2.1.below hr2 HSS.2.2.2.1.lt, HSS.2.2.2.2.below hr2 HSS.2.2.2.2.lt⟩
    refine ⟨_, rfl, .inr HSS, ?_⟩
    simp only [Act.put, List.setIfInBounds_toArray, List.set_cons_zero, List.set_cons_succ]
    refine any_runD 13 50 (.bool false) r2 (by kernel_rfl) rfl rfl (by rfl) ?_ (.inr HSS) ?_
    · obtain ⟨za, zb, zc, zd, ze⟩ := HSS
      have za_0 := za.c0; have za_1 := za.c1; have za_2 := za.c2; have za_3 := za.c3; have za_4 := za.c4
      have zb_0 := zb.c0; have zb_1 := zb.c1; have zb_2 := zb.c2; have zb_3 := zb.c3; have zb_4 := zb.c4
      have zc_0 := zc.c0; have zc_1 := zc.c1; have zc_2 := zc.c2; have zc_3 := zc.c3; have zc_4 := zc.c4
      have zd_0 := zd.c0; have zd_1 := zd.c1; have zd_2 := zd.c2; have zd_3 := zd.c3; have zd_4 := zd.c4
      have ze_0 := ze.c0; have ze_1 := ze.c1; have ze_2 := ze.c2; have ze_3 := ze.c3; have ze_4 := ze.c4
      go_simp
    simp only [Act.put, List.setIfInBounds_toArray, List.set_cons_zero, List.set_cons_succ]
    refine any_runD 14 51 (.bool false) r2 (by kernel_rfl) rfl rfl (by rfl) ?_ (.inr HSS) ?_
    · obtain ⟨za, zb, zc, zd, ze⟩ := HSS
      have za_0 := za.c0; have za_1 := za.c1; have za_2 := za.c2; have za_3 := za.c3; have za_4 := za.c4
      have zb_0 := zb.c0; have zb_1 := zb.c1; have zb_2 := zb.c2; have zb_3 := zb.c3; have zb_4 := zb.c4
      have zc_0 := zc.c0; have zc_1 := zc.c1; have zc_2 := zc.c2; have zc_3 := zc.c3; have zc_4 := zc.c4
      have zd_0 := zd.c0; have zd_1 := zd.c1; have zd_2 := zd.c2; have zd_3 := zd.c3; have zd_4 := zd.c4
      have ze_0 := ze.c0; have ze_1 := ze.c1; have ze_2 := ze.c2; have ze_3 := ze.c3; have ze_4 := ze.c4
      go_simp
    simp only [Act.put, List.setIfInBounds_toArray, List.set_cons_zero, List.set_cons_succ]
    refine any_runD 15 52 (.bool false) r2 (by kernel_rfl) rfl rfl (by rfl) ?_ (.inr HSS) ?_
    · obtain ⟨za, zb, zc, zd, ze⟩ := HSS
      have za_0 := za.c0; have za_1 := za.c1; have za_2 := za.c2; have za_3 := za.c3; have za_4 := za.c4
      have zb_0 := zb.c0; have zb_1 := zb.c1; have zb_2 := zb.c2; have zb_3 := zb.c3; have zb_4 := zb.c4
      have zc_0 := zc.c0; have zc_1 := zc.c1; have zc_2 := zc.c2; have zc_3 := zc.c3; have zc_4 := zc.c4
      have zd_0 := zd.c0; have zd_1 := zd.c1; have zd_2 := zd.c2; have zd_3 := zd.c3; have zd_4 := zd.c4
      have ze_0 := ze.c0; have ze_1 := ze.c1; have ze_2 := ze.c2; have ze_3 := ze.c3; have ze_4 := ze.c4
      go_simp
    simp only [Act.put, List.setIfInBounds_toArray, List.set_cons_zero, List.set_cons_succ]
    refine any_takeD 16 53 (.agg #[.int .i64 2, .bool false, .string sn, .slice none 0 0, .slice none 0 0]) rfl rfl (by kernel_rfl) (by kernel_rfl) (by kernel_rfl) (by kernel_rfl) (fun _ _ _ h => h) (by rfl) ?_ HSS ?_
    · intro w' hS
      obtain ⟨za, zb, zc, zd, ze⟩ := hS
      have za_0 := za.c0; have za_1 := za.c1; have za_2 := za.c2; have za_3 := za.c3; have za_4 := za.c4
      have zb_0 := zb.c0; have zb_1 := zb.c1; have zb_2 := zb.c2; have zb_3 := zb.c3; have zb_4 := zb.c4
      have zc_0 := zc.c0; have zc_1 := zc.c1; have zc_2 := zc.c2; have zc_3 := zc.c3; have zc_4 := zc.c4
      have zd_0 := zd.c0; have zd_1 := zd.c1; have zd_2 := zd.c2; have zd_3 := zd.c3; have zd_4 := zd.c4
      have ze_0 := ze.c0; have ze_1 := ze.c1; have ze_2 := ze.c2; have ze_3 := ze.c3; have ze_4 := ze.c4
      go_simp
    simp only [Act.put, List.setIfInBounds_toArray, List.set_cons_zero, List.set_cons_succ]
    refine any_runD 17 54 (.int .i64 a2) r2 (by kernel_rfl) rfl rfl (by rfl) ?_ (.inr HSS) ?_
    · obtain ⟨za, zb, zc, zd, ze⟩ := HSS
      have za_0 := za.c0; have za_1 := za.c1; have za_2 := za.c2; have za_3 := za.c3; have za_4 := za.c4
      have zb_0 := zb.c0; have zb_1 := zb.c1; have zb_2 := zb.c2; have zb_3 := zb.c3; have zb_4 := zb.c4
      have zc_0 := zc.c0; have zc_1 := zc.c1; have zc_2 := zc.c2; have zc_3 := zc.c3; have zc_4 := zc.c4
      have zd_0 := zd.c0; have zd_1 := zd.c1; have zd_2 := zd.c2; have zd_3 := zd.c3; have zd_4 := zd.c4
      have ze_0 := ze.c0; have ze_1 := ze.c1; have ze_2 := ze.c2; have ze_3 := ze.c3; have ze_4 := ze.c4
      go_simp
    simp only [Act.put, List.setIfInBounds_toArray, List.set_cons_zero, List.set_cons_succ]
    refine any_callV 18 55 (by kernel_rfl) rfl rfl (by rfl) (fn := 31) (args := #[.int .i64 a2]) ?_ (RN.out r2) ?_
    · go_simp
    rintro e r3 ⟨rfl, hr3⟩
    have rk3 := extV rk2 hr3
    have HSS : Bx r3 R1 (.int .i64 4) (.bool false) (.string ⟨#[]⟩) (.slice A4 m4 c4) (.slice B4 q4 d4) ∧ Bx r3 R2 (.int .i64 ta.kind) (.bool ta.isB) (.string ta.text) (.slice A5 m5 c5) (.slice B5 q5 d5) ∧ Bx r3 R3 (.int .i64 ta.kind) (.bool ta.isB) (.string ta.text) (.slice A6 m6 c6) (.slice B6 q6 d6) ∧ Bx r3 R4 (.int .i64 4) (.bool false) (.string ⟨#[]⟩) (.slice A7 m7 c7) (.slice B7 q7 d7) ∧ Bx r3 R5 (.int .i64 2) (.bool false) (.string sn) (.slice none 0 0) (.slice none 0 0) := ⟨HSS.1.below hr3 HSS.1.lt, HSS.2.1.below hr3 HSS.2.1.lt, HSS.2.2.1.below hr3 HSS.2.2.1.lt, HSS.2.2.2.1.below hr3 HSS.2.2.2.1.lt, HSS.2.2.2.2.below hr3 HSS.2.2.2.2.lt⟩
    refine ⟨_, rfl, .inr HSS, ?_⟩
    simp only [Act.put, List.setIfInBounds_toArray, List.set_cons_zero, List.set_cons_succ]
    refine any_callV 19 56 (by kernel_rfl) rfl rfl (by rfl) (fn := 20) (args := #[.agg #[.int .i64 2, .bool false, .string sn, .slice none 0 0, .slice none 0 0], .agg #[.int .i64 2, .bool false, .string sn, .slice none 0 0, .slice none 0 0]]) ?_ (requal_any (num a2) (num a2) _ _ r3 (HVN.out r3) (HVN.out r3)) ?_
    · go_simp
    rintro e r4 ⟨rfl, hr4⟩
    have rk4 := extV rk3 hr4
    rw [alk_self]
    have HSS : Bx r4 R1 (.int .i64 4) (.bool false) (.string ⟨#[]⟩) (.slice A4 m4 c4) (.slice B4 q4 d4) ∧ Bx r4 R2 (.int .i64 ta.kind) (.bool ta.isB) (.string ta.text) (.slice A5 m5 c5) (.slice B5 q5 d5) ∧ Bx r4 R3 (.int .i64 ta.kind) (.bool ta.isB) (.string ta.text) (.slice A6 m6 c6) (.slice B6 q6 d6) ∧ Bx r4 R4 (.int .i64 4) (.bool false) (.string ⟨#[]⟩) (.slice A7 m7 c7) (.slice B7 q7 d7) ∧ Bx r4 R5 (.int .i64 2) (.bool false) (.string sn) (.slice none 0 0) (.slice none 0 0) := ⟨HSS.1.below hr4 HSS.1.lt, HSS.2.1.below hr4 HSS.2.1.lt, HSS.2.2.1.below hr4 HSS.2.2.1.lt, HSS.2.2.2.1.below hr4 HSS.2.2.2.1.lt, HSS.2.2.2.2.below hr4 HSS.2.2.2.2.lt⟩
    refine ⟨_, rfl, .inr HSS, ?_⟩
    simp only [Act.put, List.setIfInBounds_toArray, List.set_cons_zero, List.set_cons_succ]
    refine any_runD 20 57 (.bool false) r4 (by kernel_rfl) rfl rfl (by rfl) ?_ (.inr HSS) ?_
    · obtain ⟨za, zb, zc, zd, ze⟩ := HSS
      have za_0 := za.c0; have za_1 := za.c1; have za_2 := za.c2; have za_3 := za.c3; have za_4 := za.c4
      have zb_0 := zb.c0; have zb_1 := zb.c1; have zb_2 := zb.c2; have zb_3 := zb.c3; have zb_4 := zb.c4
      have zc_0 := zc.c0; have zc_1 := zc.c1; have zc_2 := zc.c2; have zc_3 := zc.c3; have zc_4 := zc.c4
      have zd_0 := zd.c0; have zd_1 := zd.c1; have zd_2 := zd.c2; have zd_3 := zd.c3; have zd_4 := zd.c4
      have ze_0 := ze.c0; have ze_1 := ze.c1; have ze_2 := ze.c2; have ze_3 := ze.c3; have ze_4 := ze.c4
      go_simp
    simp only [Act.put, List.setIfInBounds_toArray, List.set_cons_zero, List.set_cons_succ]
    refine any_runD 21 58 (.bool false) r4 (by kernel_rfl) rfl rfl (by rfl) ?_ (.inr HSS) ?_
    · obtain ⟨za, zb, zc, zd, ze⟩ := HSS
      have za_0 := za.c0; have za_1 := za.c1; have za_2 := za.c2; have za_3 := za.c3; have za_4 := za.c4
      have zb_0 := zb.c0; have zb_1 := zb.c1; have zb_2 := zb.c2; have zb_3 := zb.c3; have zb_4 := zb.c4
      have zc_0 := zc.c0; have zc_1 := zc.c1; have zc_2 := zc.c2; have zc_3 := zc.c3; have zc_4 := zc.c4
      have zd_0 := zd.c0; have zd_1 := zd.c1; have zd_2 := zd.c2; have zd_3 := zd.c3; have zd_4 := zd.c4
      have ze_0 := ze.c0; have ze_1 := ze.c1; have ze_2 := ze.c2; have ze_3 := ze.c3; have ze_4 := ze.c4
      go_simp
    simp only [Act.put, List.setIfInBounds_toArray, List.set_cons_zero, List.set_cons_succ]
    refine any_done (by kernel_rfl) ?_ _
    refine calm_normal ?_
    obtain ⟨u1, u2, u3, u4, u5⟩ := HSS
    have BE := Lib.hid (extV BVB.out rk4)
    have SE := Lib.hid rk4.size
    have OWE := Lib.hid (OWB.out.kept _ (fun x hx => rk4.block x (by have := SZ.out; have := SY.out; omega)))
    have OAE := Lib.hid (OAB.out.kept _ (fun x hx => rk4.block x (by have := SZ.out; have := SY.out; omega)))
    have OCE := Lib.hid (OCB.out.kept _ (fun x hx => rk4.block x (by have := SZ.out; have := SY.out; omega)))
    have I1 := Lib.hid u1
    have I4 := Lib.hid u4
    have e20 := u2.c0; have e21 := u2.c1; have e22 := u2.c2; have e23 := u2.c3; have e24 := u2.c4
    clear u1 u2 u3 u4 u5 hva hvb hvc hvw p1 p2 p3 p4 p5
    go_wp2_with fail
    refine (spoil_any ta _ _ r4 OAE.out (fun x hx => by have := SZ.out; have := SY.out; have := SE.out; omega) SMA.out).mono ?_
    rintro e w9 ⟨⟨rr, rfl⟩, hk9, -⟩
    have h3 := BW3.out.size
    have hbk9 : Below w.heap.size r4 w9 := hk9.below BE.out.size (fun x hx q => by have := SZ.out; omega)
    have BE9 := Lib.hid (BE.out.trans hbk9)
    have n4 := I4.out.same (hk9.2 R4 I4.out.lt (fun q => by have := SZ.out; have := SY.out; omega))
    have n1 := I1.out.same (hk9.2 R1 I1.out.lt (fun q => by have := SZ.out; omega))
    have OW9 := Lib.hid (OWE.out.kept _ (fun x hx => hk9.2 x (by have := SZ.out; have := SY.out; have := SE.out; omega) (fun q => by have := SZ.out; omega)))
    have OC9 := Lib.hid (OCE.out.kept _ (fun x hx => hk9.2 x (by have := SZ.out; have := SY.out; have := SE.out; omega) (fun q => by have := SZ.out; omega)))
    have S9 : Hid (VB.heap.size ≤ w9.heap.size) := Lib.hid (by have := SE.out; have := hk9.1.size; omega)
    have J1 := Lib.hid n1
    clear hk9 hbk9 h3 e20 e21 e22 e23 e24
    have e40 := n4.c0; have e41 := n4.c1; have e42 := n4.c2; have e43 := n4.c3; have e44 := n4.c4
    clear n4 n1
    go_wp2_with fail
    refine (spoil_any (.mk 4 false ⟨#[]⟩ l1 []) _ _ w9 OC9.out (fun x hx => by have := SZ.out; have := SY.out; have := S9.out; omega) SMW.out).mono ?_
    rintro e w10 ⟨⟨rr, rfl⟩, hk10, -⟩
    have h3 := BW3.out.size
    have hbk10 : Below w.heap.size w9 w10 := hk10.below BE9.out.size (fun x hx q => by have := SZ.out; omega)
    have BE10 := Lib.hid (BE9.out.trans hbk10)
    have L1 := Lib.hid (J1.out.same (hk10.2 R1 J1.out.lt (fun q => by have := SZ.out; omega)))
    have VW10 := Lib.hid ((OW9.out.kept _ (fun x hx => hk10.2 x (by have := SZ.out; have := SY.out; have := S9.out; omega) (fun q => by have := SZ.out; omega))).vl _)
    clear hk10 hbk10 h3 e40 e41 e42 e43 e44
    by_cases hnz : n0 = 0
    · subst hnz
      have hsz : (⟨#[120]⟩ : ByteArray).size ≤ 140737488351232 := by decide
      go_wp2_with fail
      refine (text_any ⟨#[120]⟩ w10).mono ?_
      rintro e w11 ⟨rfl, hb11⟩
      have B11 := Lib.hid hb11
      clear hb11
      go_wp2_with fail
      refine (requal_any _ _ _ _ w11 (vl_plain w11 (k := 3) false (s := ⟨#[120]⟩) ⟨by omega, by omega⟩ hsz) (vl_plain w11 (k := 3) false (s := ⟨#[120]⟩) ⟨by omega, by omega⟩ hsz)).mono ?_
      rintro e w12 ⟨rfl, hb12⟩
      rw [alk_self]
      have B12 := Lib.hid (extV B11.out hb12)
      clear hb12
      go_wp2_with fail
      refine (bool_any (decide (0 < a2)) w12).mono ?_
      rintro e w13 ⟨rfl, hb13⟩
      have B13 := Lib.hid (extV B12.out hb13)
      clear hb13
      go_wp2_with fail
      refine (requal_any _ _ _ _ w13 (vl_plain w13 (k := 1) (decide (0 < a2)) (s := ⟨#[]⟩) ⟨by omega, by omega⟩ (by decide)) (vl_plain w13 (k := 1) (decide (0 < a2)) (s := ⟨#[]⟩) ⟨by omega, by omega⟩ (by decide))).mono ?_
      rintro e w14 ⟨rfl, hb14⟩
      rw [alk_self]
      have B14 := extV B13.out hb14
      have BE14 := Lib.hid (BE10.out.trans (B14.mono BE10.out.size))
      have n14 := L1.out.below B14 L1.out.lt
      have VW14 := Lib.hid (Vl.up B14 _ VW10.out)
      clear hb14 B14
      go_upto_region 15 with fail
      have HSS : Bx w14.drew R1 (.int .i64 4) (.bool false) (.string ⟨#[]⟩) (.slice A4 m4 c4) (.slice B4 q4 d4) := Bx.same n14 rfl
      refine region_calm (fun w' => Bx w' R1 (.int .i64 4) (.bool false) (.string ⟨#[]⟩) (.slice A4 m4 c4) (.slice B4 q4 d4)) [2, 4] (by kernel_rfl) ?_
      have sk0 : Below w14.heap.size w14 w14.drew := ⟨rfl, rfl, rfl, Nat.le_refl _, fun _ _ => rfl⟩
      refine any_runD 0 83 (.bool true) w14.drew (by kernel_rfl) rfl rfl (by rfl) ?_ (.inr HSS) ?_
      · have za := HSS
        have za_0 := za.c0; have za_1 := za.c1; have za_2 := za.c2; have za_3 := za.c3; have za_4 := za.c4
        go_simp
      simp only [Act.put, List.setIfInBounds_toArray, List.set_cons_zero, List.set_cons_succ]
      refine any_runD 1 84 (.bool true) w14.drew (by kernel_rfl) rfl rfl (by rfl) ?_ (.inr HSS) ?_
      · have za := HSS
        have za_0 := za.c0; have za_1 := za.c1; have za_2 := za.c2; have za_3 := za.c3; have za_4 := za.c4
        go_simp
      simp only [Act.put, List.setIfInBounds_toArray, List.set_cons_zero, List.set_cons_succ]
      refine any_takeD 2 85 (.slice A1 n1 c1) rfl rfl (by kernel_rfl) (by kernel_rfl) (by kernel_rfl) (by kernel_rfl) (fun _ _ _ h => h) (by rfl) ?_ HSS ?_
      · intro w' hS
        have za := hS
        have za_0 := za.c0; have za_1 := za.c1; have za_2 := za.c2; have za_3 := za.c3; have za_4 := za.c4
        go_simp
      simp only [Act.put, List.setIfInBounds_toArray, List.set_cons_zero, List.set_cons_succ]
      refine any_takeD 4 87 (.agg #[.int .i64 4, .bool false, .string ⟨#[]⟩, .slice A4 m4 c4, .slice B4 q4 d4]) rfl rfl (by kernel_rfl) (by kernel_rfl) (by kernel_rfl) (by kernel_rfl) (fun _ _ _ h => h) (by rfl) ?_ HSS ?_
      · intro w' hS
        have za := hS
        have za_0 := za.c0; have za_1 := za.c1; have za_2 := za.c2; have za_3 := za.c3; have za_4 := za.c4
        go_simp
      simp only [Act.put, List.setIfInBounds_toArray, List.set_cons_zero, List.set_cons_succ]
      refine any_callV 3 86 (by kernel_rfl) rfl rfl (by rfl) (fn := 26) (args := #[.slice A1 n1 c1]) ?_ (RL.out w14.drew (extV BE14.out sk0)) ?_
      · go_simp
      rintro e s1 ⟨A8, m8, c8, B8, q8, d8, rfl, hs1, ho8⟩
      have sk1 := extV sk0 hs1
      have HSS : Bx s1 R1 (.int .i64 4) (.bool false) (.string ⟨#[]⟩) (.slice A4 m4 c4) (.slice B4 q4 d4) := HSS.below hs1 HSS.lt
      refine ⟨_, rfl, .inr HSS, ?_⟩
      simp only [Act.put, List.setIfInBounds_toArray, List.set_cons_zero, List.set_cons_succ]
      refine any_callV 5 88 (by kernel_rfl) rfl rfl (by rfl) (fn := 20) (args := #[.agg #[.int .i64 4, .bool false, .string ⟨#[]⟩, .slice A8 m8 c8, .slice B8 q8 d8], .agg #[.int .i64 4, .bool false, .string ⟨#[]⟩, .slice A4 m4 c4, .slice B4 q4 d4]]) ?_ (requal_any (.mk 4 false ⟨#[]⟩ l1 []) (.mk 4 false ⟨#[]⟩ l1 []) _ _ s1 (ho8.vl _) (Vl.up sk1 _ VW14.out)) ?_
      · go_simp
      rintro e s2 ⟨rfl, hs2⟩
      have sk2 := extV sk1 hs2
      rw [alk_self]
      have HSS : Bx s2 R1 (.int .i64 4) (.bool false) (.string ⟨#[]⟩) (.slice A4 m4 c4) (.slice B4 q4 d4) := HSS.below hs2 HSS.lt
      refine ⟨_, rfl, .inr HSS, ?_⟩
      simp only [Act.put, List.setIfInBounds_toArray, List.set_cons_zero, List.set_cons_succ]
      refine any_runD 6 89 (.bool true) s2 (by kernel_rfl) rfl rfl (by rfl) ?_ (.inr HSS) ?_
      · have za := HSS
        have za_0 := za.c0; have za_1 := za.c1; have za_2 := za.c2; have za_3 := za.c3; have za_4 := za.c4
        go_simp
      simp only [Act.put, List.setIfInBounds_toArray, List.set_cons_zero, List.set_cons_succ]
      refine any_runD 7 90 (.bool true) s2 (by kernel_rfl) rfl rfl (by rfl) ?_ (.inr HSS) ?_
      · have za := HSS
        have za_0 := za.c0; have za_1 := za.c1; have za_2 := za.c2; have za_3 := za.c3; have za_4 := za.c4
        go_simp
      simp only [Act.put, List.setIfInBounds_toArray, List.set_cons_zero, List.set_cons_succ]
      refine any_callV 8 91 (by kernel_rfl) rfl rfl (by rfl) (fn := 14) (args := #[]) ?_ (awake_any s2 (TB.out s2 (extV BE14.out sk2))) ?_
      · go_simp
      rintro e s3 ⟨rfl, hs3⟩
      have sk3 := extV sk2 hs3
      have HSS : Bx s3 R1 (.int .i64 4) (.bool false) (.string ⟨#[]⟩) (.slice A4 m4 c4) (.slice B4 q4 d4) := HSS.below hs3 HSS.lt
      refine ⟨_, rfl, .inr HSS, ?_⟩
      simp only [Act.put, List.setIfInBounds_toArray, List.set_cons_zero, List.set_cons_succ]
      refine any_runD 9 92 (.bool true) s3 (by kernel_rfl) rfl rfl (by rfl) ?_ (.inr HSS) ?_
      · have za := HSS
        have za_0 := za.c0; have za_1 := za.c1; have za_2 := za.c2; have za_3 := za.c3; have za_4 := za.c4
        go_simp
      simp only [Act.put, List.setIfInBounds_toArray, List.set_cons_zero, List.set_cons_succ]
      refine any_runD 10 6 (.bool true) s3 (by kernel_rfl) rfl rfl (by rfl) ?_ (.inr HSS) ?_
      · have za := HSS
        have za_0 := za.c0; have za_1 := za.c1; have za_2 := za.c2; have za_3 := za.c3; have za_4 := za.c4
        go_simp
      simp only [Act.put, List.setIfInBounds_toArray, List.set_cons_zero, List.set_cons_succ]
      refine any_done (by kernel_rfl) ?_ _
      refine calm_normal ?_
      have BF := Lib.hid (extV BE14.out sk3)
      go_wp2_with fail
      go_ret
      exact ⟨rfl, BF.out⟩
    · have hn1 : (0 : Int) < (n0 : Int) := by omega
      obtain ⟨gg, off, s, rfl, hs, k0⟩ := (HN0.out.below BE10.out).look (i := 0) (by omega)
      rw [Nat.add_zero] at k0
      have hsz : s.size ≤ 140737488351232 := HM0.out s (List.mem_of_getElem? hs)
      clear hs
      go_wp2_with fail
      refine (text_any s w10).mono ?_
      rintro e w11 ⟨rfl, hb11⟩
      have B11 := Lib.hid hb11
      clear hb11
      go_wp2_with fail
      refine (requal_any _ _ _ _ w11 (vl_plain w11 (k := 3) false (s := s) ⟨by omega, by omega⟩ hsz) (vl_plain w11 (k := 3) false (s := s) ⟨by omega, by omega⟩ hsz)).mono ?_
      rintro e w12 ⟨rfl, hb12⟩
      rw [alk_self]
      have B12 := Lib.hid (extV B11.out hb12)
      clear hb12
      go_wp2_with fail
      refine (bool_any (decide (0 < a2)) w12).mono ?_
      rintro e w13 ⟨rfl, hb13⟩
      have B13 := Lib.hid (extV B12.out hb13)
      clear hb13
      go_wp2_with fail
      refine (requal_any _ _ _ _ w13 (vl_plain w13 (k := 1) (decide (0 < a2)) (s := ⟨#[]⟩) ⟨by omega, by omega⟩ (by decide)) (vl_plain w13 (k := 1) (decide (0 < a2)) (s := ⟨#[]⟩) ⟨by omega, by omega⟩ (by decide))).mono ?_
      rintro e w14 ⟨rfl, hb14⟩
      rw [alk_self]
      have B14 := extV B13.out hb14
      have BE14 := Lib.hid (BE10.out.trans (B14.mono BE10.out.size))
      have n14 := L1.out.below B14 L1.out.lt
      have VW14 := Lib.hid (Vl.up B14 _ VW10.out)
      clear hb14 B14
      go_upto_region 15 with fail
      have HSS : Bx w14.drew R1 (.int .i64 4) (.bool false) (.string ⟨#[]⟩) (.slice A4 m4 c4) (.slice B4 q4 d4) := Bx.same n14 rfl
      refine region_calm (fun w' => Bx w' R1 (.int .i64 4) (.bool false) (.string ⟨#[]⟩) (.slice A4 m4 c4) (.slice B4 q4 d4)) [2, 4] (by kernel_rfl) ?_
      have sk0 : Below w14.heap.size w14 w14.drew := ⟨rfl, rfl, rfl, Nat.le_refl _, fun _ _ => rfl⟩
      refine any_runD 0 83 (.bool true) w14.drew (by kernel_rfl) rfl rfl (by rfl) ?_ (.inr HSS) ?_
      · have za := HSS
        have za_0 := za.c0; have za_1 := za.c1; have za_2 := za.c2; have za_3 := za.c3; have za_4 := za.c4
        go_simp
      simp only [Act.put, List.setIfInBounds_toArray, List.set_cons_zero, List.set_cons_succ]
      refine any_runD 1 84 (.bool true) w14.drew (by kernel_rfl) rfl rfl (by rfl) ?_ (.inr HSS) ?_
      · have za := HSS
        have za_0 := za.c0; have za_1 := za.c1; have za_2 := za.c2; have za_3 := za.c3; have za_4 := za.c4
        go_simp
      simp only [Act.put, List.setIfInBounds_toArray, List.set_cons_zero, List.set_cons_succ]
      refine any_takeD 2 85 (.slice A1 n1 c1) rfl rfl (by kernel_rfl) (by kernel_rfl) (by kernel_rfl) (by kernel_rfl) (fun _ _ _ h => h) (by rfl) ?_ HSS ?_
      · intro w' hS
        have za := hS
        have za_0 := za.c0; have za_1 := za.c1; have za_2 := za.c2; have za_3 := za.c3; have za_4 := za.c4
        go_simp
      simp only [Act.put, List.setIfInBounds_toArray, List.set_cons_zero, List.set_cons_succ]
      refine any_takeD 4 87 (.agg #[.int .i64 4, .bool false, .string ⟨#[]⟩, .slice A4 m4 c4, .slice B4 q4 d4]) rfl rfl (by kernel_rfl) (by kernel_rfl) (by kernel_rfl) (by kernel_rfl) (fun _ _ _ h => h) (by rfl) ?_ HSS ?_
      · intro w' hS
        have za := hS
        have za_0 := za.c0; have za_1 := za.c1; have za_2 := za.c2; have za_3 := za.c3; have za_4 := za.c4
        go_simp
      simp only [Act.put, List.setIfInBounds_toArray, List.set_cons_zero, List.set_cons_succ]
      refine any_callV 3 86 (by kernel_rfl) rfl rfl (by rfl) (fn := 26) (args := #[.slice A1 n1 c1]) ?_ (RL.out w14.drew (extV BE14.out sk0)) ?_
      · go_simp
      rintro e s1 ⟨A8, m8, c8, B8, q8, d8, rfl, hs1, ho8⟩
      have sk1 := extV sk0 hs1
      have HSS : Bx s1 R1 (.int .i64 4) (.bool false) (.string ⟨#[]⟩) (.slice A4 m4 c4) (.slice B4 q4 d4) := HSS.below hs1 HSS.lt
      refine ⟨_, rfl, .inr HSS, ?_⟩
      simp only [Act.put, List.setIfInBounds_toArray, List.set_cons_zero, List.set_cons_succ]
      refine any_callV 5 88 (by kernel_rfl) rfl rfl (by rfl) (fn := 20) (args := #[.agg #[.int .i64 4, .bool false, .string ⟨#[]⟩, .slice A8 m8 c8, .slice B8 q8 d8], .agg #[.int .i64 4, .bool false, .string ⟨#[]⟩, .slice A4 m4 c4, .slice B4 q4 d4]]) ?_ (requal_any (.mk 4 false ⟨#[]⟩ l1 []) (.mk 4 false ⟨#[]⟩ l1 []) _ _ s1 (ho8.vl _) (Vl.up sk1 _ VW14.out)) ?_
      · go_simp
      rintro e s2 ⟨rfl, hs2⟩
      have sk2 := extV sk1 hs2
      rw [alk_self]
      have HSS : Bx s2 R1 (.int .i64 4) (.bool false) (.string ⟨#[]⟩) (.slice A4 m4 c4) (.slice B4 q4 d4) := HSS.below hs2 HSS.lt
      refine ⟨_, rfl, .inr HSS, ?_⟩
      simp only [Act.put, List.setIfInBounds_toArray, List.set_cons_zero, List.set_cons_succ]
      refine any_runD 6 89 (.bool true) s2 (by kernel_rfl) rfl rfl (by rfl) ?_ (.inr HSS) ?_
      · have za := HSS
        have za_0 := za.c0; have za_1 := za.c1; have za_2 := za.c2; have za_3 := za.c3; have za_4 := za.c4
        go_simp
      simp only [Act.put, List.setIfInBounds_toArray, List.set_cons_zero, List.set_cons_succ]
      refine any_runD 7 90 (.bool true) s2 (by kernel_rfl) rfl rfl (by rfl) ?_ (.inr HSS) ?_
      · have za := HSS
        have za_0 := za.c0; have za_1 := za.c1; have za_2 := za.c2; have za_3 := za.c3; have za_4 := za.c4
        go_simp
      simp only [Act.put, List.setIfInBounds_toArray, List.set_cons_zero, List.set_cons_succ]
      refine any_callV 8 91 (by kernel_rfl) rfl rfl (by rfl) (fn := 14) (args := #[]) ?_ (awake_any s2 (TB.out s2 (extV BE14.out sk2))) ?_
      · go_simp
      rintro e s3 ⟨rfl, hs3⟩
      have sk3 := extV sk2 hs3
      have HSS : Bx s3 R1 (.int .i64 4) (.bool false) (.string ⟨#[]⟩) (.slice A4 m4 c4) (.slice B4 q4 d4) := HSS.below hs3 HSS.lt
      refine ⟨_, rfl, .inr HSS, ?_⟩
      simp only [Act.put, List.setIfInBounds_toArray, List.set_cons_zero, List.set_cons_succ]
      refine any_runD 9 92 (.bool true) s3 (by kernel_rfl) rfl rfl (by rfl) ?_ (.inr HSS) ?_
      · have za := HSS
        have za_0 := za.c0; have za_1 := za.c1; have za_2 := za.c2; have za_3 := za.c3; have za_4 := za.c4
        go_simp
      simp only [Act.put, List.setIfInBounds_toArray, List.set_cons_zero, List.set_cons_succ]
      refine any_runD 10 6 (.bool true) s3 (by kernel_rfl) rfl rfl (by rfl) ?_ (.inr HSS) ?_
      · have za := HSS
        have za_0 := za.c0; have za_1 := za.c1; have za_2 := za.c2; have za_3 := za.c3; have za_4 := za.c4
        go_simp
      simp only [Act.put, List.setIfInBounds_toArray, List.set_cons_zero, List.set_cons_succ]
      refine any_done (by kernel_rfl) ?_ _
      refine calm_normal ?_
      have BF := Lib.hid (extV BE14.out sk3)
      go_wp2_with fail
      go_ret
      exact ⟨rfl, BF.out⟩
end Go.Proofs.YtlgeibaejeiemaaDoor
