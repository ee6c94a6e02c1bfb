/-
  What the document's EqTexts and Equal of layer 10 compute.
-/
import Derived.Test.YtlgeibaejeiemaaDoorVd
import Derived.BigQuiet
import Derived.Test.YtlgeibaejeiemaaDoorWg
import Derived.Deep.DeepCutAuto
namespace Go.Proofs.YtlgeibaejeiemaaDoor
set_option linter.unusedVariables false
set_option linter.unusedSimpArgs false
open Go.RowKit
namespace Vt
open Wd We

section
variable {P : Program} {ops : Array Oper} {Q : Exit → Act → World → Prop} {md : Region.Mode} {S : World → Prop} {held : List Nat}
theorem any_callV (i : Nat) (d : Tmp) {o : Oper} {f : Nat} {L : Array Bool} {a : Act} {w : World} (hr : Region.ready md ops L = [i]) (ho : ops[i]? = some o) (hd : o.dst = some d) (hw : Region.wanted o (yielded ops a.tmps) = true)
    {fn : FuncId} {args : Array Value} (hrun : (execOp a.eval o).run P w = .ok (.enter fn args) w) {R : Ending → World → Prop} (hc : Calls P fn args w R)
    (h : ∀ e w', R e w' → ∃ v, e = .returned v ∧ (Late md ops held i ∨ S w') ∧ anyG P md ops Q S held f (L.setIfInBounds i true) (a.put (some d) v) w') : anyG P md ops Q S held (f + 1) L a w := by
  refine any_one i hr ho hw fun K' hK => ?_
  unfold Oper.wp
  rw [hrun, Oper.upon_enter]
  refine hc.mono ?_
  intro e w' he
  obtain ⟨v, rfl, h1, h2⟩ := h e w' he
  show K' (a.put o.dst v) w'
  rw [hd]; exact hK _ _ h1 h2
end
theorem ba_list {s t : ByteArray} (h : s.toList = t.toList) : s = t := by
  obtain ⟨a⟩ := s
  obtain ⟨b⟩ := t
  have h2 : a.toList = b.toList := by
    have h3 : (⟨a⟩ : ByteArray).toList = (⟨b⟩ : ByteArray).toList := h
    rwa [ByteArray.toList_mk, ByteArray.toList_mk] at h3
  exact ByteArray.ext (Array.ext' h2)
theorem ba_ne {s t : ByteArray} (h : s ≠ t) : (s.toList == t.toList) = false := beq_eq_false_iff_ne.2 fun g => h (ba_list g)
theorem take_eq {α : Type} {l m : List α} {i : Nat} {x : α} (h : l.take i = m.take i) (hx : l[i]? = some x) (hy : m[i]? = some x) : l.take (i + 1) = m.take (i + 1) := by rw [List.take_add_one, List.take_add_one, h, hx, hy]
set_option maxRecDepth 100000 in
set_option maxHeartbeats 4000000 in
theorem eqTexts_any (A : Option Addr) (m c : Nat) (a : List ByteArray) (B : Option Addr) (q d : Nat) (b : List ByteArray) (w : World) (ha : Nm w A m c a) (hb : Nm w B q d b) :
    Calls Tryd.prog 39 #[.slice A m c, .slice B q d] w fun e w' => e = .returned (.bool (decide (a = b))) ∧ Below w.heap.size w w' := by
  have hla := ha.len
  have hlb := hb.len
  have HA := Lib.hid ha
  have HB := Lib.hid hb
  have hmx : m ≤ 9223372036854775807 := by have := ha.le; have := ha.max; unfold maxLen at *; omega
  have hqx : q ≤ 9223372036854775807 := by have := hb.le; have := hb.max; unfold maxLen at *; omega
  clear ha hb
  by_cases hmq : m = q
  · subst hmq
    obtain ⟨Z, hZ⟩ : ∃ Z, decide (a = b) = Z := ⟨_, rfl⟩
    rw [hZ]
    have HZ := Lib.hid hZ
    clear hZ
    go_enter Tryd.func39, Tryd.ntmps39
    go_wp2
    go_loopw [5] (fun iv wr => ∃ i : Nat, iv = .int .i64 i ∧ i ≤ m ∧ Hid (a.take i = b.take i) ∧ Hid (Below w.heap.size w wr)) (fun iv _ => m - (intOf iv).toNat)
    case atStart => exact ⟨0, rfl, by omega, Lib.hid rfl, Lib.hid (Below.refl _ _)⟩
    case round =>
      obtain ⟨i, rfl, hi, hT, hB⟩ := hrel
      by_cases him : i < m
      · have i1 : (i : Int) < (m : Int) := by omega
        obtain ⟨g, off, s, rfl, hs, k1⟩ := (HA.out.below hB.out).look him
        obtain ⟨g', off', t, rfl, ht, k2⟩ := (HB.out.below hB.out).look him
        by_cases hst : s = t
        · subst hst
          have HT := Lib.hid (take_eq hT.out hs ht)
          clear hs ht
          go_wp2
          go_quiet (fail)
          go_wp2
          exact ⟨⟨i + 1, by go_num, by omega, HT, Lib.hid (Wd.below_drewN hB.out _)⟩, by simp [intOf]; omega⟩
        · have hne := ba_ne hst
          obtain rfl : false = Z := by
            rw [← HZ.out]
            refine (decide_eq_false fun e => hst ?_).symm
            rw [e, ht] at hs
            injection hs with hs
            exact hs.symm
          clear hs ht hst
          go_wp2
          go_quiet (fail)
          go_wp2
          go_ret
          exact ⟨rfl, Wd.below_drewN hB.out _⟩
      · obtain rfl : i = m := by omega
        obtain rfl : true = Z := by
          rw [← HZ.out]
          refine (decide_eq_true ?_).symm
          have h := hT.out
          rwa [List.take_of_length_le (by omega), List.take_of_length_le (by omega)] at h
        go_wp2
        go_ret
        exact ⟨rfl, hB.out⟩
  · have hne : ¬ (m : Int) = (q : Int) := by omega
    have hd : decide (a = b) = false := decide_eq_false fun e => hmq (by rw [← hla, ← hlb, e])
    rw [hd]
    clear hd
    go_enter Tryd.func39, Tryd.ntmps39
    go_wp2
    go_ret
    exact ⟨rfl, Below.refl _ _⟩

set_option maxRecDepth 100000 in
set_option maxHeartbeats 8000000 in
theorem requal_any : ∀ (s t : Tr) (v u : Value) (w : World), Vl w v s → Vl w u t →
    Calls Tryd.prog 20 #[v, u] w fun e w' => e = .returned (.bool (alk s t)) ∧ Below w.heap.size w w' := by
  refine Tr.ind ?_
  intro k b s l n ih t v u w hv hu
  obtain ⟨k', b', s', l', n'⟩ := t
  obtain ⟨A, m, c, B, q, d, rfl, hl, hn, hk, hs⟩ := hv.open_
  obtain ⟨A', m', c', B', q', d', rfl, hl', hn', hk', hs'⟩ := hu.open_
  show Calls _ _ #[.agg #[.int .i64 k, .bool b, .string s, .slice A m c, .slice B q d], .agg #[.int .i64 k', .bool b', .string s', .slice A' m' c', .slice B' q' d']] w _
  have hlm : l.length = m := hl.len
  have hlm' : l'.length = m' := hl'.len
  obtain ⟨Z, hZ⟩ : ∃ Z, alk (.mk k b s l n) (.mk k' b' s' l' n') = Z := ⟨_, rfl⟩
  rw [hZ]
  have IH := Lib.hid (fun (x : Tr) (hx : x ∈ l) (y : Tr) (vx vy : Value) (wx : World) (hvx : Vl wx vx x) (hvy : Vl wx vy y) => ih x hx y vx vy wx hvx hvy)
  have HL : Hid (VL w A m c l) := Lib.hid hl
  have HL' : Hid (VL w A' m' c' l') := Lib.hid hl'
  have hmx : m ≤ 9223372036854775807 := by have := hl.le; have := hl.max; unfold maxLen at *; omega
  have hmx' : m' ≤ 9223372036854775807 := by have := hl'.le; have := hl'.max; unfold maxLen at *; omega
  have hNT : ∀ w', Below w.heap.size w w' → Calls Tryd.prog 39 #[.slice B q d, .slice B' q' d'] w' fun e w'' => e = .returned (.bool (decide (n = n'))) ∧ Below w'.heap.size w' w'' := fun w' h =>
    eqTexts_any B q d n B' q' d' n' w' (hn.below h) (hn'.below h)
  have HNT := Lib.hid hNT
  have HZ := Lib.hid hZ
  have p0 := (show Bx (w.alloc (.cells #[.int .i64 k, .bool b, .string s, .slice A m c, .slice B q d] 25)) w.heap.size (.int .i64 k) (.bool b) (.string s) (.slice A m c) (.slice B q d) from heap_alloc_new w _)
  have b0 := below_allocV w (.cells #[.int .i64 k, .bool b, .string s, .slice A m c, .slice B q d] 25)
  obtain ⟨Q, hQ⟩ : ∃ Q, w.heap.size = Q := ⟨_, rfl⟩
  obtain ⟨W0, hW0⟩ : ∃ W0, w.alloc (.cells #[.int .i64 k, .bool b, .string s, .slice A m c, .slice B q d] 25) = W0 := ⟨_, rfl⟩
  have hs0 : W0.heap.size = Q + 1 := by rw [← hW0, World.size_alloc, hQ]
  rw [hW0] at p0 b0
  rw [hQ] at p0
  have p1 := (show Bx (W0.alloc (.cells #[.int .i64 k', .bool b', .string s', .slice A' m' c', .slice B' q' d'] 25)) W0.heap.size (.int .i64 k') (.bool b') (.string s') (.slice A' m' c') (.slice B' q' d') from heap_alloc_new W0 _)
  have b1 := below_allocV W0 (.cells #[.int .i64 k', .bool b', .string s', .slice A' m' c', .slice B' q' d'] 25)
  have q0 := p0.below b1 p0.lt
  obtain ⟨W1, hW1⟩ : ∃ W1, W0.alloc (.cells #[.int .i64 k', .bool b', .string s', .slice A' m' c', .slice B' q' d'] 25) = W1 := ⟨_, rfl⟩
  obtain ⟨R, hR⟩ : ∃ R, Q + 1 = R := ⟨_, rfl⟩
  rw [hW1] at p1 b1 q0
  rw [hs0, hR] at p1
  have BB := Lib.hid (extV b0 b1)
  have HW0 := Lib.hid hW0
  have HW1 := Lib.hid hW1
  have HQ := Lib.hid hQ
  have HR := Lib.hid hR
  have P0 := Lib.hid q0
  have P1 := Lib.hid p1
  have HL0 := Lib.hid q0.lt
  have HL1 := Lib.hid p1.lt
  have a0 := q0.c0
  have a1 := q0.c1
  have a2 := q0.c2
  have a3 := q0.c3
  have a4 := q0.c4
  have e0 := p1.c0
  have e1 := p1.c1
  have e2 := p1.c2
  have e3 := p1.c3
  have e4 := p1.c4
  clear ih hv hu hl hl' hn hn' hZ hNT p0 b0 p1 b1 q0 hQ hW0 hs0 hW1 hR
  go_enter Tryd.func20, Tryd.ntmps20
  go_upto_region 1 with fail
  rw [HW0.out, HW1.out, HQ.out, HR.out]
  clear HW0 HW1 HQ HR
  by_cases hk1 : k = k'
  · subst hk1
    by_cases hb1 : b = b'
    · subst hb1
      by_cases hs1 : s = s'
      · subst hs1
        have NT := Lib.hid (HNT.out W1 BB.out)
        by_cases hn1 : n = n'
        · subst hn1
          rw [decide_eq_true rfl] at NT
          go_wp2_with fail
          refine NT.out.mono ?_
          rintro e w2 ⟨rfl, hb2⟩
          have a32 := (P0.out.below hb2 HL0.out).c3
          have e32 := (P1.out.below hb2 HL1.out).c3
          have H2 := Lib.hid hb2
          have B2 := Lib.hid (extV BB.out hb2)
          clear hb2 a0 a1 a2 a3 a4 e0 e1 e2 e3 e4
          by_cases hm : m = m'
          · subst hm
            go_wp2_with fail
            go_loopw [5] (fun iv wr => ∃ i : Nat, iv = .int .i64 i ∧ i ≤ m ∧ Hid (l.take i = l'.take i) ∧ Hid (Below W1.heap.size W1 wr)) (fun iv _ => m - (intOf iv).toNat)
            case atStart => exact ⟨0, rfl, by omega, Lib.hid rfl, H2⟩
            case round =>
              obtain ⟨i, rfl, hi, hT, hB⟩ := hrel
              have hBW := extV BB.out hB.out
              have q3 := (P0.out.below hB.out HL0.out).c3
              have r3 := (P1.out.below hB.out HL1.out).c3
              by_cases him : i < m
              · have i1 : (i : Int) < (m : Int) := by omega
                obtain ⟨g, off, x, X1, x2, x3, X4, x5, x6, rfl, hx, k0, k1, k2, k3, k4, hvx⟩ := (HL.out.below hBW).look him
                obtain ⟨g', off', y, Y1, y2, y3, Y4, y5, y6, rfl, hy, j0, j1, j2, j3, j4, hvy⟩ := (HL'.out.below hBW).look him
                have CT := IH.out x (List.mem_of_getElem? hx) y _ _ wr.drew (Vl.up (show Below wr.heap.size wr wr.drew from ⟨rfl, rfl, rfl, Nat.le_refl _, fun _ _ => rfl⟩) x hvx) (Vl.up (show Below wr.heap.size wr wr.drew from ⟨rfl, rfl, rfl, Nat.le_refl _, fun _ _ => rfl⟩) y hvy)
                have HTN : Hid (x = y → l.take (i + 1) = l'.take (i + 1)) := Lib.hid (fun e => by subst e; exact take_eq hT.out hx hy)
                have HFN : Hid (x ≠ y → Z = false) := Lib.hid (fun e => by
                  rw [← HZ.out]
                  refine alk_no (fun g => e ?_)
                  injection g with _ _ _ g
                  rw [g, hy] at hx
                  injection hx with hx
                  exact hx.symm)
                clear hx hy hvx hvy
                obtain ⟨xk, hxk⟩ : ∃ v, x.kind = v := ⟨_, rfl⟩
                obtain ⟨xb, hxb⟩ : ∃ v, x.isB = v := ⟨_, rfl⟩
                obtain ⟨xt, hxt⟩ : ∃ v, x.text = v := ⟨_, rfl⟩
                obtain ⟨yk, hyk⟩ : ∃ v, y.kind = v := ⟨_, rfl⟩
                obtain ⟨yb, hyb⟩ : ∃ v, y.isB = v := ⟨_, rfl⟩
                obtain ⟨yt, hyt⟩ : ∃ v, y.text = v := ⟨_, rfl⟩
                rw [hxk] at k0 CT
                rw [hxb] at k1 CT
                rw [hxt] at k2 CT
                rw [hyk] at j0 CT
                rw [hyb] at j1 CT
                rw [hyt] at j2 CT
                clear hxk hxb hxt hyk hyb hyt
                go_upto_region 6 with fail
                have HSS : wr.drew.cell? ⟨Q, 3, none⟩ = some (.slice (some ⟨g, off, none⟩) m c) ∧ wr.drew.cell? ⟨R, 3, none⟩ = some (.slice (some ⟨g', off', none⟩) m c') ∧ wr.drew.cell? ⟨g, off + i * 5, none⟩ = some (.int .i64 xk) ∧ wr.drew.cell? ⟨g, off + i * 5 + 1, none⟩ = some (.bool xb) ∧ wr.drew.cell? ⟨g, off + i * 5 + 2, none⟩ = some (.string xt) ∧ wr.drew.cell? ⟨g, off + i * 5 + 3, none⟩ = some (.slice X1 x2 x3) ∧ wr.drew.cell? ⟨g, off + i * 5 + 4, none⟩ = some (.slice X4 x5 x6) ∧ wr.drew.cell? ⟨g', off' + i * 5, none⟩ = some (.int .i64 yk) ∧ wr.drew.cell? ⟨g', off' + i * 5 + 1, none⟩ = some (.bool yb) ∧ wr.drew.cell? ⟨g', off' + i * 5 + 2, none⟩ = some (.string yt) ∧ wr.drew.cell? ⟨g', off' + i * 5 + 3, none⟩ = some (.slice Y1 y2 y3) ∧ wr.drew.cell? ⟨g', off' + i * 5 + 4, none⟩ = some (.slice Y4 y5 y6) := ⟨q3, r3, k0, k1, k2, k3, k4, j0, j1, j2, j3, j4⟩
                refine region_calm (fun w' => w'.cell? ⟨Q, 3, none⟩ = some (.slice (some ⟨g, off, none⟩) m c) ∧ w'.cell? ⟨R, 3, none⟩ = some (.slice (some ⟨g', off', none⟩) m c') ∧ w'.cell? ⟨g, off + i * 5, none⟩ = some (.int .i64 xk) ∧ w'.cell? ⟨g, off + i * 5 + 1, none⟩ = some (.bool xb) ∧ w'.cell? ⟨g, off + i * 5 + 2, none⟩ = some (.string xt) ∧ w'.cell? ⟨g, off + i * 5 + 3, none⟩ = some (.slice X1 x2 x3) ∧ w'.cell? ⟨g, off + i * 5 + 4, none⟩ = some (.slice X4 x5 x6) ∧ w'.cell? ⟨g', off' + i * 5, none⟩ = some (.int .i64 yk) ∧ w'.cell? ⟨g', off' + i * 5 + 1, none⟩ = some (.bool yb) ∧ w'.cell? ⟨g', off' + i * 5 + 2, none⟩ = some (.string yt) ∧ w'.cell? ⟨g', off' + i * 5 + 3, none⟩ = some (.slice Y1 y2 y3) ∧ w'.cell? ⟨g', off' + i * 5 + 4, none⟩ = some (.slice Y4 y5 y6)) [0, 1, 2, 3, 4, 5, 6, 7, 8, 9, 11] (by kernel_rfl) ?_
                refine any_takeD 0 49 (.pointer (some ⟨Q, 3, none⟩)) rfl rfl (by kernel_rfl) (by kernel_rfl) (by kernel_rfl) (by kernel_rfl) (fun _ _ _ h => h) (by rfl) ?_ HSS ?_
                · rintro w' ⟨q1, q2, q3, q4, q5, q6, q7, q8, q9, q10, q11, q12⟩; go_simp
                simp only [Act.put, List.setIfInBounds_toArray, List.set_cons_zero, List.set_cons_succ]
                refine any_takeD 1 50 (.slice (some ⟨g, off, none⟩) m c) rfl rfl (by kernel_rfl) (by kernel_rfl) (by kernel_rfl) (by kernel_rfl) (fun _ _ _ h => h) (by rfl) ?_ HSS ?_
                · rintro w' ⟨q1, q2, q3, q4, q5, q6, q7, q8, q9, q10, q11, q12⟩; go_simp
                simp only [Act.put, List.setIfInBounds_toArray, List.set_cons_zero, List.set_cons_succ]
                refine any_takeD 2 51 (.int .i64 (i : Int)) rfl rfl (by kernel_rfl) (by kernel_rfl) (by kernel_rfl) (by kernel_rfl) (fun _ _ _ h => h) (by rfl) ?_ HSS ?_
                · rintro w' ⟨q1, q2, q3, q4, q5, q6, q7, q8, q9, q10, q11, q12⟩; go_simp
                simp only [Act.put, List.setIfInBounds_toArray, List.set_cons_zero, List.set_cons_succ]
                refine any_takeD 3 52 (.pointer (some ⟨g, off + i * 5, none⟩)) rfl rfl (by kernel_rfl) (by kernel_rfl) (by kernel_rfl) (by kernel_rfl) (fun _ _ _ h => h) (by rfl) ?_ HSS ?_
                · rintro w' ⟨q1, q2, q3, q4, q5, q6, q7, q8, q9, q10, q11, q12⟩; go_simp
                simp only [Act.put, List.setIfInBounds_toArray, List.set_cons_zero, List.set_cons_succ]
                refine any_takeD 4 53 (.agg #[.int .i64 xk, .bool xb, .string xt, .slice X1 x2 x3, .slice X4 x5 x6]) rfl rfl (by kernel_rfl) (by kernel_rfl) (by kernel_rfl) (by kernel_rfl) (fun _ _ _ h => h) (by rfl) ?_ HSS ?_
                · rintro w' ⟨q1, q2, q3, q4, q5, q6, q7, q8, q9, q10, q11, q12⟩; go_simp
                simp only [Act.put, List.setIfInBounds_toArray, List.set_cons_zero, List.set_cons_succ]
                refine any_takeD 5 54 (.pointer (some ⟨R, 3, none⟩)) rfl rfl (by kernel_rfl) (by kernel_rfl) (by kernel_rfl) (by kernel_rfl) (fun _ _ _ h => h) (by rfl) ?_ HSS ?_
                · rintro w' ⟨q1, q2, q3, q4, q5, q6, q7, q8, q9, q10, q11, q12⟩; go_simp
                simp only [Act.put, List.setIfInBounds_toArray, List.set_cons_zero, List.set_cons_succ]
                refine any_takeD 6 55 (.slice (some ⟨g', off', none⟩) m c') rfl rfl (by kernel_rfl) (by kernel_rfl) (by kernel_rfl) (by kernel_rfl) (fun _ _ _ h => h) (by rfl) ?_ HSS ?_
                · rintro w' ⟨q1, q2, q3, q4, q5, q6, q7, q8, q9, q10, q11, q12⟩; go_simp
                simp only [Act.put, List.setIfInBounds_toArray, List.set_cons_zero, List.set_cons_succ]
                refine any_takeD 7 56 (.int .i64 (i : Int)) rfl rfl (by kernel_rfl) (by kernel_rfl) (by kernel_rfl) (by kernel_rfl) (fun _ _ _ h => h) (by rfl) ?_ HSS ?_
                · rintro w' ⟨q1, q2, q3, q4, q5, q6, q7, q8, q9, q10, q11, q12⟩; go_simp
                simp only [Act.put, List.setIfInBounds_toArray, List.set_cons_zero, List.set_cons_succ]
                refine any_takeD 8 57 (.pointer (some ⟨g', off' + i * 5, none⟩)) rfl rfl (by kernel_rfl) (by kernel_rfl) (by kernel_rfl) (by kernel_rfl) (fun _ _ _ h => h) (by rfl) ?_ HSS ?_
                · rintro w' ⟨q1, q2, q3, q4, q5, q6, q7, q8, q9, q10, q11, q12⟩; go_simp
                simp only [Act.put, List.setIfInBounds_toArray, List.set_cons_zero, List.set_cons_succ]
                refine any_takeD 9 58 (.agg #[.int .i64 yk, .bool yb, .string yt, .slice Y1 y2 y3, .slice Y4 y5 y6]) rfl rfl (by kernel_rfl) (by kernel_rfl) (by kernel_rfl) (by kernel_rfl) (fun _ _ _ h => h) (by rfl) ?_ HSS ?_
                · rintro w' ⟨q1, q2, q3, q4, q5, q6, q7, q8, q9, q10, q11, q12⟩; go_simp
                simp only [Act.put, List.setIfInBounds_toArray, List.set_cons_zero, List.set_cons_succ]
                refine any_callV 10 59 (by kernel_rfl) rfl rfl (by rfl) (fn := 20) (args := #[.agg #[.int .i64 xk, .bool xb, .string xt, .slice X1 x2 x3, .slice X4 x5 x6], .agg #[.int .i64 yk, .bool yb, .string yt, .slice Y1 y2 y3, .slice Y4 y5 y6]]) ?_ CT ?_
                · go_simp
                rintro e w8 ⟨rfl, hb8⟩
                have hb9 : Below wr.heap.size wr w8 := (show Below wr.heap.size wr wr.drew from ⟨rfl, rfl, rfl, Nat.le_refl _, fun _ _ => rfl⟩).trans hb8
                have HS8 : w8.cell? ⟨Q, 3, none⟩ = some (.slice (some ⟨g, off, none⟩) m c) ∧ w8.cell? ⟨R, 3, none⟩ = some (.slice (some ⟨g', off', none⟩) m c') ∧ w8.cell? ⟨g, off + i * 5, none⟩ = some (.int .i64 xk) ∧ w8.cell? ⟨g, off + i * 5 + 1, none⟩ = some (.bool xb) ∧ w8.cell? ⟨g, off + i * 5 + 2, none⟩ = some (.string xt) ∧ w8.cell? ⟨g, off + i * 5 + 3, none⟩ = some (.slice X1 x2 x3) ∧ w8.cell? ⟨g, off + i * 5 + 4, none⟩ = some (.slice X4 x5 x6) ∧ w8.cell? ⟨g', off' + i * 5, none⟩ = some (.int .i64 yk) ∧ w8.cell? ⟨g', off' + i * 5 + 1, none⟩ = some (.bool yb) ∧ w8.cell? ⟨g', off' + i * 5 + 2, none⟩ = some (.string yt) ∧ w8.cell? ⟨g', off' + i * 5 + 3, none⟩ = some (.slice Y1 y2 y3) ∧ w8.cell? ⟨g', off' + i * 5 + 4, none⟩ = some (.slice Y4 y5 y6) := ⟨(hb9.cell (lt_of_cell q3)).trans q3, (hb9.cell (lt_of_cell r3)).trans r3, (hb9.cell (lt_of_cell k0)).trans k0, (hb9.cell (lt_of_cell k1)).trans k1, (hb9.cell (lt_of_cell k2)).trans k2, (hb9.cell (lt_of_cell k3)).trans k3, (hb9.cell (lt_of_cell k4)).trans k4, (hb9.cell (lt_of_cell j0)).trans j0, (hb9.cell (lt_of_cell j1)).trans j1, (hb9.cell (lt_of_cell j2)).trans j2, (hb9.cell (lt_of_cell j3)).trans j3, (hb9.cell (lt_of_cell j4)).trans j4⟩
                refine ⟨_, rfl, .inr HS8, ?_⟩
                simp only [Act.put, List.setIfInBounds_toArray, List.set_cons_zero, List.set_cons_succ]
                refine any_takeD 11 60 (.bool (!alk x y)) rfl rfl (by kernel_rfl) (by kernel_rfl) (by kernel_rfl) (by kernel_rfl) (fun _ _ _ h => h) (by rfl) ?_ HS8 ?_
                · rintro w' ⟨q1, q2, q3, q4, q5, q6, q7, q8, q9, q10, q11, q12⟩; go_simp
                simp only [Act.put, List.setIfInBounds_toArray, List.set_cons_zero, List.set_cons_succ]
                refine any_done (by kernel_rfl) ?_ _
                refine calm_normal ?_
                have B8 := Lib.hid (extV hB.out hb9)
                have B9 := Lib.hid (extV BB.out B8.out)
                clear HSS HS8 hb8 hb9 q3 r3 k0 k1 k2 k3 k4 j0 j1 j2 j3 j4
                by_cases hxy : x = y
                · have HT2 := Lib.hid (HTN.out hxy)
                  have hal : alk x y = true := by rw [hxy]; exact alk_self y
                  rw [hal]
                  go_wp2
                  exact ⟨⟨i + 1, by go_num, by omega, HT2, B8⟩, by simp [intOf]; omega⟩
                · obtain rfl : Z = false := HFN.out hxy
                  have hal : alk x y = false := alk_no hxy
                  rw [hal]
                  go_wp2
                  go_ret
                  exact ⟨rfl, B9.out⟩
              · obtain rfl : i = m := by omega
                obtain rfl : true = Z := by
                  rw [← HZ.out]
                  have h := hT.out
                  rw [List.take_of_length_le (by omega), List.take_of_length_le (by omega)] at h
                  subst h
                  exact (alk_self _).symm
                have B9 := Lib.hid hBW
                go_wp2
                go_ret
                exact ⟨rfl, B9.out⟩
          · have hmm : ¬ (m : Int) = (m' : Int) := by omega
            obtain rfl : false = Z := by rw [← HZ.out]; exact (alk_no (fun e => hm (by injection e with _ _ _ e; rw [← hlm, ← hlm', e]))).symm
            go_wp2_with fail
            go_ret
            exact ⟨rfl, B2.out⟩
        · rw [decide_eq_false hn1] at NT
          obtain rfl : false = Z := by rw [← HZ.out]; exact (alk_no (fun e => hn1 (by injection e))).symm
          go_wp2_with fail
          refine NT.out.mono ?_
          rintro e w2 ⟨rfl, hb2⟩
          have B2 := Lib.hid (extV BB.out hb2)
          clear hb2
          go_wp2_with fail
          go_ret
          exact ⟨rfl, B2.out⟩
      · have hne := ba_ne hs1
        obtain rfl : false = Z := by rw [← HZ.out]; exact (alk_no (fun e => hs1 (by injection e))).symm
        go_wp2_with fail
        go_ret
        exact ⟨rfl, BB.out⟩
    · have hne : (b == b') = false := by simpa using hb1
      obtain rfl : false = Z := by rw [← HZ.out]; exact (alk_no (fun e => hb1 (by injection e))).symm
      go_wp2_with fail
      go_ret
      exact ⟨rfl, BB.out⟩
  · have hne : ¬ k = k' := hk1
    obtain rfl : false = Z := by rw [← HZ.out]; exact (alk_no (fun e => hk1 (by injection e))).symm
    go_wp2_with fail
    go_ret
    exact ⟨rfl, BB.out⟩
end Vt
end Go.Proofs.YtlgeibaejeiemaaDoor
