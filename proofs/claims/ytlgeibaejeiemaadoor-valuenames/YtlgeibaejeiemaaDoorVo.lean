/-
  What the program's Equal of layer 10 computes.
-/
import Derived.Test.YtlgeibaejeiemaaDoorVn
namespace Go.Proofs.YtlgeibaejeiemaaDoor
set_option linter.unusedVariables false
set_option linter.unusedSimpArgs false
open Go.RowKit
namespace Vt
open Wd We

set_option maxRecDepth 100000 in
set_option maxHeartbeats 4000000 in
theorem sEq_any (A : Option Addr) (m c : Nat) (a : List ByteArray) (B : Option Addr) (q d : Nat) (b : List ByteArray) (w : World) (ha : Nm w A m c a) (hb : Nm w B q d b) :
    Calls Tryd.prog 40 #[.slice A m c, .slice B q d] w fun e w' => e = .returned (.bool (decide (a = b))) ∧ Below w.heap.size w w' := by
  have hla := ha.len
  have hlb := hb.len
  have HA := Lib.hid ha
  have HB := Lib.hid hb
  have hmx : m ≤ 9223372036854775807 := by have := ha.le; have := ha.max; unfold maxLen at *; omega
  have hqx : q ≤ 9223372036854775807 := by have := hb.le; have := hb.max; unfold maxLen at *; omega
  clear ha hb
  by_cases hmq : m = q
  · subst hmq
    obtain ⟨Z, hZ⟩ : ∃ Z, decide (a = b) = Z := ⟨_, rfl⟩
    rw [hZ]
    have HZ := Lib.hid hZ
    clear hZ
    go_enter Tryd.func40, Tryd.ntmps40
    go_wp2
    go_loopw [13] (fun iv wr => ∃ i : Nat, iv = .int .i64 i ∧ i ≤ m ∧ Hid (a.take i = b.take i) ∧ Hid (Below w.heap.size w wr)) (fun iv _ => m - (intOf iv).toNat)
    case atStart => exact ⟨0, rfl, by omega, Lib.hid rfl, Lib.hid (Below.refl _ _)⟩
    case round =>
      obtain ⟨i, rfl, hi, hT, hB⟩ := hrel
      by_cases him : i < m
      · have i1 : (i : Int) < (m : Int) := by omega
        obtain ⟨g, off, s, rfl, hs, k1⟩ := (HA.out.below hB.out).look him
        obtain ⟨g', off', t, rfl, ht, k2⟩ := (HB.out.below hB.out).look him
        by_cases hst : s = t
        · subst hst
          have HT := Lib.hid (take_eq hT.out hs ht)
          clear hs ht
          go_wp2
          go_quiet (fail)
          go_wp2
          exact ⟨⟨i + 1, by go_num, by omega, HT, Lib.hid (Wd.below_drewN hB.out _)⟩, by simp [intOf]; omega⟩
        · have hne := ba_ne hst
          obtain rfl : false = Z := by
            rw [← HZ.out]
            refine (decide_eq_false fun e => hst ?_).symm
            rw [e, ht] at hs
            injection hs with hs
            exact hs.symm
          clear hs ht hst
          go_wp2
          go_quiet (fail)
          go_wp2
          go_ret
          exact ⟨rfl, Wd.below_drewN hB.out _⟩
      · obtain rfl : i = m := by omega
        obtain rfl : true = Z := by
          rw [← HZ.out]
          refine (decide_eq_true ?_).symm
          have h := hT.out
          rwa [List.take_of_length_le (by omega), List.take_of_length_le (by omega)] at h
        go_wp2
        go_ret
        exact ⟨rfl, hB.out⟩
  · have hne : ¬ (m : Int) = (q : Int) := by omega
    have hd : decide (a = b) = false := decide_eq_false fun e => hmq (by rw [← hla, ← hlb, e])
    rw [hd]
    clear hd
    go_enter Tryd.func40, Tryd.ntmps40
    go_wp2
    go_ret
    exact ⟨rfl, Below.refl _ _⟩
/-- are two lists of values alike? -/
noncomputable def alkL (a b : List Tr) : Bool := @decide (a = b) (Classical.propDecidable _)
theorem alkL_iff {a b : List Tr} : alkL a b = true ↔ a = b := by unfold alkL; exact @decide_eq_true_iff _ (Classical.propDecidable _)
theorem alkL_no {a b : List Tr} (h : a ≠ b) : alkL a b = false := by
  cases hc : alkL a b with
  | false => rfl
  | true => exact absurd (alkL_iff.1 hc) h
/-- what Equal tells of two values -/
def EqI (x y : Tr) : Prop := ∀ (vx vy : Value) (wx : World), Vl wx vx x → Vl wx vy y → Calls Tryd.prog 22 #[vx, vy] wx fun e w' => e = .returned (.bool (alk x y)) ∧ Below wx.heap.size wx w'
set_option maxRecDepth 100000 in
set_option maxHeartbeats 8000000 in
theorem eqF_any (A : Option Addr) (m c : Nat) (l : List Tr) (A' : Option Addr) (m' c' : Nat) (l' : List Tr) (w : World) (hl : VL w A m c l) (hl' : VL w A' m' c' l') (ih : ∀ x ∈ l, ∀ y, EqI x y) :
    Calls Tryd.prog 41 #[.slice A m c, .slice A' m' c', .func (.func 22) #[] #[]] w fun e w' => e = .returned (.bool (alkL l l')) ∧ Below w.heap.size w w' := by
  have hlm : l.length = m := hl.len
  have hlm' : l'.length = m' := hl'.len
  obtain ⟨Z, hZ⟩ : ∃ Z, alkL l l' = Z := ⟨_, rfl⟩
  rw [hZ]
  have HZ := Lib.hid hZ
  have IH := Lib.hid ih
  have HL : Hid (VL w A m c l) := Lib.hid hl
  have HL' : Hid (VL w A' m' c' l') := Lib.hid hl'
  have hmx : m ≤ 9223372036854775807 := by have := hl.le; have := hl.max; unfold maxLen at *; omega
  have hmx' : m' ≤ 9223372036854775807 := by have := hl'.le; have := hl'.max; unfold maxLen at *; omega
  clear ih hl hl' hZ
  by_cases hm : m = m'
  · subst hm
    go_enter Tryd.func41, Tryd.ntmps41
    go_wp2_with fail
    go_loopw [17] (fun iv wr => ∃ i : Nat, iv = .int .i64 i ∧ i ≤ m ∧ Hid (l.take i = l'.take i) ∧ Hid (Below w.heap.size w wr)) (fun iv _ => m - (intOf iv).toNat)
    case atStart => exact ⟨0, rfl, by omega, Lib.hid rfl, Lib.hid (Below.refl _ _)⟩
    case round =>
      obtain ⟨i, rfl, hi, hT, hB⟩ := hrel
      by_cases him : i < m
      · have i1 : (i : Int) < (m : Int) := by omega
        obtain ⟨g, off, x, X1, x2, x3, X4, x5, x6, rfl, hx, k0, k1, k2, k3, k4, hvx⟩ := (HL.out.below hB.out).look him
        obtain ⟨R1, hR1⟩ : ∃ R, wr.heap.size = R := ⟨_, rfl⟩
        obtain ⟨U1, hU1⟩ : ∃ U, wr.alloc (.cells #[.int .i64 0, .bool false, .string ⟨#[]⟩, .slice none 0 0, .slice none 0 0] 25) = U := ⟨_, rfl⟩
        obtain ⟨nb, nb2⟩ := newbox hR1 hU1
        obtain ⟨nb3, nb4, nb5⟩ := nb2 (.int .i64 x.kind) (.bool x.isB) (.string x.text) (.slice X1 x2 x3) (.slice X4 x5 x6)
        have e0 := nb.c0; have e1 := nb.c1; have e2 := nb.c2; have e3 := nb.c3; have e4 := nb.c4
        have f0 := nb.fz 0; have f1 := nb.fz 1; have f2 := nb.fz 2; have f3 := nb.fz 3; have f4 := nb.fz 4
        obtain ⟨V1, hV1⟩ : ∃ V, put5 U1 R1 (.int .i64 x.kind) (.bool x.isB) (.string x.text) (.slice X1 x2 x3) (.slice X4 x5 x6) = V := ⟨_, rfl⟩
        rw [hV1] at nb3 nb4 nb5
        have HV1 := Lib.hid hV1
        have HR1 := Lib.hid hR1
        have N1 := Lib.hid nb3
        have NB1 := Lib.hid nb4
        have NS1 := Lib.hid nb5
        clear hV1 nb nb2 nb3 nb4 nb5
        obtain ⟨g', off', y, Y1, y2, y3, Y4, y5, y6, rfl, hy, j0, j1, j2, j3, j4, hvy⟩ := (HL'.out.below (extV hB.out NB1.out)).look him
        have HTN : Hid (x = y → l.take (i + 1) = l'.take (i + 1)) := Lib.hid (fun e => by subst e; exact take_eq hT.out hx hy)
        have HFN : Hid (x ≠ y → Z = false) := Lib.hid (fun e => by
          rw [← HZ.out]
          refine alkL_no (fun g => e ?_)
          rw [g, hy] at hx
          injection hx with hx
          exact hx.symm)
        have HX := Lib.hid (List.mem_of_getElem? hx)
        have HVX := Lib.hid (Vl.up NB1.out x hvx)
        have HVY := Lib.hid hvy
        clear hx hy hvx hvy
        go_upto_region 6 with fail
        rw [show ((((U1.setCell ⟨R1, 0, none⟩ (.int .i64 x.kind)).setCell ⟨R1, 1, none⟩ (.bool x.isB)).setCell ⟨R1, 2, none⟩ (.string x.text)).setCell ⟨R1, 3, none⟩ (.slice X1 x2 x3)).setCell ⟨R1, 4, none⟩ (.slice X4 x5 x6) = V1 from HV1.out]
        clear e0 e1 e2 e3 e4 f0 f1 f2 f3 f4 hU1
        obtain ⟨R2, hR2⟩ : ∃ R, V1.heap.size = R := ⟨_, rfl⟩
        obtain ⟨U2, hU2⟩ : ∃ U, V1.alloc (.cells #[.int .i64 0, .bool false, .string ⟨#[]⟩, .slice none 0 0, .slice none 0 0] 25) = U := ⟨_, rfl⟩
        obtain ⟨nb, nb2⟩ := newbox hR2 hU2
        obtain ⟨nb3, nb4, nb5⟩ := nb2 (.int .i64 y.kind) (.bool y.isB) (.string y.text) (.slice Y1 y2 y3) (.slice Y4 y5 y6)
        have e0 := nb.c0; have e1 := nb.c1; have e2 := nb.c2; have e3 := nb.c3; have e4 := nb.c4
        have f0 := nb.fz 0; have f1 := nb.fz 1; have f2 := nb.fz 2; have f3 := nb.fz 3; have f4 := nb.fz 4
        obtain ⟨V2, hV2⟩ : ∃ V, put5 U2 R2 (.int .i64 y.kind) (.bool y.isB) (.string y.text) (.slice Y1 y2 y3) (.slice Y4 y5 y6) = V := ⟨_, rfl⟩
        rw [hV2] at nb3 nb4 nb5
        have HV2 := Lib.hid hV2
        have HR2 := Lib.hid hR2
        have N2 := Lib.hid nb3
        have NB2 := Lib.hid nb4
        have NS2 := Lib.hid nb5
        clear hV2 nb nb2 nb3 nb4 nb5
        have CT := Lib.hid (IH.out x HX.out y _ _ V2 (Vl.up NB2.out x HVX.out) (Vl.up NB2.out y HVY.out))
        go_upto_region 7 with fail
        rw [show ((((U2.setCell ⟨R2, 0, none⟩ (.int .i64 y.kind)).setCell ⟨R2, 1, none⟩ (.bool y.isB)).setCell ⟨R2, 2, none⟩ (.string y.text)).setCell ⟨R2, 3, none⟩ (.slice Y1 y2 y3)).setCell ⟨R2, 4, none⟩ (.slice Y4 y5 y6) = V2 from HV2.out]
        clear e0 e1 e2 e3 e4 f0 f1 f2 f3 f4 hU2
        have N1' := N1.out.below NB2.out (by have := NS1.out; have := HR1.out; omega)
        have a0 := N1'.c0; have a1 := N1'.c1; have a2 := N1'.c2; have a3 := N1'.c3; have a4 := N1'.c4
        have e0 := N2.out.c0; have e1 := N2.out.c1; have e2 := N2.out.c2; have e3 := N2.out.c3; have e4 := N2.out.c4
        by_cases hxy : x = y
        · subst hxy
          rw [alk_self] at CT
          have HTX := Lib.hid (HTN.out rfl)
          clear HTN
          go_wp2_with fail
          refine CT.out.mono ?_
          rintro e w1 ⟨rfl, hb1⟩
          have B1 := Lib.hid (extV hB.out (extV NB1.out (extV NB2.out hb1)))
          clear hb1 N1' e0 e1 e2 e3 e4 a0 a1 a2 a3 a4 k0 k1 k2 k3 k4 j0 j1 j2 j3 j4
          go_wp2_with fail
          exact ⟨⟨i + 1, by go_num, by omega, HTX, B1⟩, by simp [intOf]; omega⟩
        · rw [alk_no hxy] at CT
          obtain rfl := HFN.out hxy
          go_wp2_with fail
          refine CT.out.mono ?_
          rintro e w1 ⟨rfl, hb1⟩
          have B1 := Lib.hid (extV hB.out (extV NB1.out (extV NB2.out hb1)))
          clear hb1 N1' e0 e1 e2 e3 e4 a0 a1 a2 a3 a4 k0 k1 k2 k3 k4 j0 j1 j2 j3 j4
          go_wp2_with fail
          go_ret
          exact ⟨rfl, B1.out⟩
      · obtain rfl : i = m := by omega
        obtain rfl : true = Z := by
          rw [← HZ.out]
          refine (alkL_iff.2 ?_).symm
          have h := hT.out
          rwa [List.take_of_length_le (by omega), List.take_of_length_le (by omega)] at h
        go_wp2
        go_ret
        exact ⟨rfl, hB.out⟩
  · have hne : ¬ (m : Int) = (m' : Int) := by omega
    obtain rfl : false = Z := by
      rw [← HZ.out]
      exact (alkL_no fun e => hm (by rw [← hlm, ← hlm', e])).symm
    go_enter Tryd.func41, Tryd.ntmps41
    go_wp2
    go_ret
    exact ⟨rfl, Below.refl _ _⟩
set_option maxRecDepth 100000 in
set_option maxHeartbeats 8000000 in
theorem equal_any : ∀ (s t : Tr), EqI s t := by
  refine Tr.ind ?_
  intro k b s l n ih t v u w hv hu
  obtain ⟨k', b', s', l', n'⟩ := t
  obtain ⟨A, m, c, B, q, d, rfl, hl, hn, hk, hs⟩ := hv.open_
  obtain ⟨A', m', c', B', q', d', rfl, hl', hn', hk', hs'⟩ := hu.open_
  show Calls _ _ #[.agg #[.int .i64 k, .bool b, .string s, .slice A m c, .slice B q d], .agg #[.int .i64 k', .bool b', .string s', .slice A' m' c', .slice B' q' d']] w _
  obtain ⟨Z, hZ⟩ : ∃ Z, alk (.mk k b s l n) (.mk k' b' s' l' n') = Z := ⟨_, rfl⟩
  rw [hZ]
  have hNT : ∀ w', Below w.heap.size w w' → Calls Tryd.prog 40 #[.slice B q d, .slice B' q' d'] w' fun e w'' => e = .returned (.bool (decide (n = n'))) ∧ Below w'.heap.size w' w'' := fun w' h =>
    sEq_any B q d n B' q' d' n' w' (hn.below h) (hn'.below h)
  have HNT := Lib.hid hNT
  have hLT : ∀ w', Below w.heap.size w w' → Calls Tryd.prog 41 #[.slice A m c, .slice A' m' c', .func (.func 22) #[] #[]] w' fun e w'' => e = .returned (.bool (alkL l l')) ∧ Below w'.heap.size w' w'' := fun w' h =>
    eqF_any A m c l A' m' c' l' w' (hl.below h) (hl'.below h) ih
  have HLT := Lib.hid hLT
  have HZ := Lib.hid hZ
  have p0 := (show Bx (w.alloc (.cells #[.int .i64 k, .bool b, .string s, .slice A m c, .slice B q d] 25)) w.heap.size (.int .i64 k) (.bool b) (.string s) (.slice A m c) (.slice B q d) from heap_alloc_new w _)
  have b0 := below_allocV w (.cells #[.int .i64 k, .bool b, .string s, .slice A m c, .slice B q d] 25)
  obtain ⟨Q, hQ⟩ : ∃ Q, w.heap.size = Q := ⟨_, rfl⟩
  obtain ⟨W0, hW0⟩ : ∃ W0, w.alloc (.cells #[.int .i64 k, .bool b, .string s, .slice A m c, .slice B q d] 25) = W0 := ⟨_, rfl⟩
  have hs0 : W0.heap.size = Q + 1 := by rw [← hW0, World.size_alloc, hQ]
  rw [hW0] at p0 b0
  rw [hQ] at p0
  have p1 := (show Bx (W0.alloc (.cells #[.int .i64 k', .bool b', .string s', .slice A' m' c', .slice B' q' d'] 25)) W0.heap.size (.int .i64 k') (.bool b') (.string s') (.slice A' m' c') (.slice B' q' d') from heap_alloc_new W0 _)
  have b1 := below_allocV W0 (.cells #[.int .i64 k', .bool b', .string s', .slice A' m' c', .slice B' q' d'] 25)
  have q0 := p0.below b1 p0.lt
  obtain ⟨W1, hW1⟩ : ∃ W1, W0.alloc (.cells #[.int .i64 k', .bool b', .string s', .slice A' m' c', .slice B' q' d'] 25) = W1 := ⟨_, rfl⟩
  obtain ⟨R, hR⟩ : ∃ R, Q + 1 = R := ⟨_, rfl⟩
  rw [hW1] at p1 b1 q0
  rw [hs0, hR] at p1
  have BB := Lib.hid (extV b0 b1)
  have HW0 := Lib.hid hW0
  have HW1 := Lib.hid hW1
  have HQ := Lib.hid hQ
  have HR := Lib.hid hR
  have P0 := Lib.hid q0
  have P1 := Lib.hid p1
  have a0 := q0.c0
  have a1 := q0.c1
  have a2 := q0.c2
  have a3 := q0.c3
  have a4 := q0.c4
  have e0 := p1.c0
  have e1 := p1.c1
  have e2 := p1.c2
  have e3 := p1.c3
  have e4 := p1.c4
  clear ih hv hu hl hl' hn hn' hZ hNT hLT p0 b0 p1 b1 q0 hQ hW0 hs0 hW1 hR
  go_enter Tryd.func22, Tryd.ntmps22
  go_upto_region 1 with fail
  rw [HW0.out, HW1.out, HQ.out, HR.out]
  clear HW0 HW1 HQ HR
  by_cases hk1 : k = k'
  · subst hk1
    by_cases hb1 : b = b'
    · subst hb1
      by_cases hs1 : s = s'
      · subst hs1
        have NT := Lib.hid (HNT.out W1 BB.out)
        by_cases hn1 : n = n'
        · subst hn1
          rw [decide_eq_true rfl] at NT
          go_wp2_with fail
          refine NT.out.mono ?_
          rintro e w2 ⟨rfl, hb2⟩
          have a32 := (P0.out.below hb2 P0.out.lt).c3
          have e32 := (P1.out.below hb2 P1.out.lt).c3
          have B2 := Lib.hid (extV BB.out hb2)
          have LT := Lib.hid (HLT.out w2 B2.out)
          obtain ⟨Y, hY⟩ : ∃ Y, alkL l l' = Y := ⟨_, rfl⟩
          obtain rfl : Y = Z := by
            rw [← HZ.out, ← hY]
            by_cases hll : l = l'
            · subst hll
              rw [alk_self]; exact alkL_iff.2 rfl
            · rw [alkL_no hll, alk_no]
              intro g
              injection g with _ _ _ g
              exact hll g
          rw [hY] at LT
          clear hb2 hY a0 a1 a2 a3 a4 e0 e1 e2 e3 e4
          go_wp2_with fail
          refine LT.out.mono ?_
          rintro e w3 ⟨rfl, hb3⟩
          have B3 := Lib.hid (extV B2.out hb3)
          clear hb3 a32 e32
          go_wp2_with fail
          go_ret
          exact ⟨rfl, B3.out⟩
        · rw [decide_eq_false hn1] at NT
          obtain rfl : false = Z := by
            rw [← HZ.out]
            exact (alk_no fun g => hn1 (by injection g)).symm
          go_wp2_with fail
          refine NT.out.mono ?_
          rintro e w2 ⟨rfl, hb2⟩
          have B2 := Lib.hid (extV BB.out hb2)
          clear hb2 a0 a1 a2 a3 a4 e0 e1 e2 e3 e4
          go_wp2_with fail
          go_ret
          exact ⟨rfl, B2.out⟩
      · have hne := ba_ne hs1
        obtain rfl : false = Z := by
          rw [← HZ.out]
          exact (alk_no fun g => hs1 (by injection g)).symm
        go_wp2_with fail
        go_ret
        exact ⟨rfl, BB.out⟩
    · obtain rfl : false = Z := by
        rw [← HZ.out]
        exact (alk_no fun g => hb1 (by injection g)).symm
      have hbb : (b == b') = false := by cases b <;> cases b' <;> simp_all
      go_wp2_with fail
      go_ret
      exact ⟨rfl, BB.out⟩
  · obtain rfl : false = Z := by
      rw [← HZ.out]
      exact (alk_no fun g => hk1 (by injection g)).symm
    go_wp2_with fail
    go_ret
    exact ⟨rfl, BB.out⟩
end Vt
end Go.Proofs.YtlgeibaejeiemaaDoor
