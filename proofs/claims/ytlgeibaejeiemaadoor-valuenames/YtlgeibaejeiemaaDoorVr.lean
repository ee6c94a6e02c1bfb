/-
  What the program's Get, List, Make, Text, Bool, Number of layer 10 compute.
-/
import Derived.Test.YtlgeibaejeiemaaDoorVq
import Derived.Test.YtlgeibaejeiemaaDoorVl
import Derived.Test.YtlgeibaejeiemaaDoorIt
namespace Go.Proofs.YtlgeibaejeiemaaDoor
set_option linter.unusedVariables false
set_option linter.unusedSimpArgs false
open Go.RowKit
namespace Vt
open Wd We
open Dm (decs)

set_option maxRecDepth 100000 in
set_option maxHeartbeats 16000000 in
theorem vget_any (t : Tr) (v : Value) (nm : ByteArray) (w : World) (hv : Vl w v t) : Calls Tryd.prog 24 #[v, .string nm] w (GtP (getT t nm) w) := by
  cases t with | mk k b s l n =>
  obtain ⟨A, m, c, B, q, d, rfl, hl, hn, hk, hs⟩ := hv.open_
  show Calls _ _ #[.agg #[.int .i64 k, .bool b, .string s, .slice A m c, .slice B q d], .string nm] w _
  have HL : Hid (VL w A m c l) := Lib.hid hl
  have HN : Hid (Nm w B q d n) := Lib.hid hn
  have hlen : l.length = m := hl.len
  have hqn : n.length = q := hn.len
  have hmx : m ≤ 1759218604390 := by have := hl.small; omega
  have hqx : q ≤ 8796093022208 := by have := hn.small; omega
  obtain ⟨Q, hQ⟩ : ∃ Q, w.heap.size = Q := ⟨_, rfl⟩
  obtain ⟨R, hR⟩ : ∃ R, Q + 1 = R := ⟨_, rfl⟩
  obtain ⟨W1, hW1⟩ : ∃ W1, w.alloc (.cells #[.int .i64 k, .bool b, .string s, .slice A m c, .slice B q d] 25) = W1 := ⟨_, rfl⟩
  obtain ⟨W2, hW2⟩ : ∃ W2, W1.alloc (.cells #[.int .i64 0, .bool false, .string ⟨#[]⟩, .slice none 0 0, .slice none 0 0] 25) = W2 := ⟨_, rfl⟩
  have z1 : W1.heap.size = R := by rw [← hW1, World.size_alloc, hQ, hR]
  have z2 : W2.heap.size = R + 1 := by rw [← hW2, World.size_alloc, z1]
  have b1 : Below Q w W1 := by rw [← hW1, ← hQ]; exact below_allocV w _
  have b2 : Below R W1 W2 := by rw [← hW2, ← z1]; exact below_allocV W1 _
  have q1 : Bx W1 Q (.int .i64 k) (.bool b) (.string s) (.slice A m c) (.slice B q d) := by rw [← hW1, ← hQ]; exact heap_alloc_new w _
  have r2 : Bx W2 R (.int .i64 0) (.bool false) (.string ⟨#[]⟩) (.slice none 0 0) (.slice none 0 0) := by rw [← hW2, ← z1]; exact heap_alloc_new W1 _
  have Q2 := Lib.hid (q1.below b2 (by omega))
  have R2 := Lib.hid r2
  have BW := Lib.hid (b1.trans (b2.mono (by omega)))
  have HW1 := Lib.hid hW1
  have HW2 := Lib.hid hW2
  have HQ := Lib.hid hQ
  have HR := Lib.hid hR
  have Z1 := Lib.hid z1
  have Z2 := Lib.hid z2
  have hQR : Q < R := by omega
  clear hv hl hn hk hs hW1 hW2 hQ hR z1 z2 b1 b2 q1 r2
  obtain ⟨GT, hGT⟩ : ∃ g, getT (.mk k b s l n) nm = g := ⟨_, rfl⟩
  have HGT := Lib.hid hGT
  rw [hGT]
  clear hGT
  go_enter Tryd.func24, Tryd.ntmps24
  go_upto_region 1 with fail
  rw [HW1.out, HQ.out]
  rw [HR.out, HW2.out]
  have q0 := Q2.out.c0
  have q3 := Q2.out.c3
  have q4 := Q2.out.c4
  by_cases hk5 : k = 5
  · subst hk5
    rcases Nat.lt_or_ge m q with hmq | hmq
    · have hmin : min (q : Int) (m : Int) = (m : Int) := by omega
      go_wp2_with fail
      have HG0 : Hid (gt n l nm m = GT) := Lib.hid (by rw [← HGT.out]; unfold getT; rw [if_pos (show (Tr.mk 5 b s l n).kind = 5 from rfl)]; show _ = gt n l nm (min n.length l.length); rw [hqn, hlen, show min q m = m by omega])
      have BW0 : Hid (Below w.heap.size w W2) := by rw [HQ.out]; exact BW
      go_loopw [6] (fun iv wr => ∃ i : Nat, iv = .int .i64 ((i : Int) - 1) ∧ i ≤ m ∧ Hid (gt n l nm i = GT) ∧ Hid (Below w.heap.size w wr) ∧ Hid (Bx wr Q (.int .i64 5) (.bool b) (.string s) (.slice A m c) (.slice B q d)) ∧ Hid (Bx wr R (.int .i64 0) (.bool false) (.string ⟨#[]⟩) (.slice none 0 0) (.slice none 0 0))) (fun iv _ => (intOf iv + 1).toNat)
      case atStart => exact ⟨m, rfl, Nat.le_refl _, HG0, BW0, Q2, R2⟩
      case round =>
        obtain ⟨i, rfl, hi, hG, hB, hBQ, RX⟩ := hrel
        have q3 := hBQ.out.c3
        have q4 := hBQ.out.c4
        cases i with
        | zero =>
          have f0 := RX.out.fz 0
          have d0 := RX.out.c0
          have f1 := RX.out.fz 1
          have d1 := RX.out.c1
          have f2 := RX.out.fz 2
          have d2 := RX.out.c2
          have f3 := RX.out.fz 3
          have d3 := RX.out.c3
          have f4 := RX.out.fz 4
          have d4 := RX.out.c4
          obtain rfl : none = GT := hG.out
          rw [show ((0 : Nat) : Int) - 1 = -1 by omega]
          go_wp2_with fail
          rw [show ((((wr.setCell ⟨R, 0, none⟩ (.int .i64 0)).setCell ⟨R, 1, none⟩ (.bool false)).setCell ⟨R, 2, none⟩ (.string ⟨#[]⟩)).setCell ⟨R, 3, none⟩ (.slice none 0 0)).setCell ⟨R, 4, none⟩ (.slice none 0 0) = put5 wr R (.int .i64 0) (.bool false) (.string ⟨#[]⟩) (.slice none 0 0) (.slice none 0 0) from rfl]
          have RY := put5_bx (a := .int .i64 0) (b := .bool false) (s := .string ⟨#[]⟩) (x := .slice none 0 0) (y := .slice none 0 0) RX.out
          have BY := put5_below (a := .int .i64 0) (b := .bool false) (s := .string ⟨#[]⟩) (x := .slice none 0 0) (y := .slice none 0 0) (R := R) hB.out (show w.heap.size ≤ R by have := HQ.out; omega)
          clear f0 f1 f2 f3 f4 d0 d1 d2 d3 d4
          generalize put5 wr R (.int .i64 0) (.bool false) (.string ⟨#[]⟩) (.slice none 0 0) (.slice none 0 0) = w8 at *
          have e0 := RY.c0
          have e1 := RY.c1
          have e2 := RY.c2
          have e3 := RY.c3
          have e4 := RY.c4
          refine bodyPost_ret (v := .tuple #[.agg #[.int .i64 0, .bool false, .string ⟨#[]⟩, .slice none 0 0, .slice none 0 0], .bool false]) ?_ rfl ⟨BY, rfl⟩
          simp only [results]
          go_simp
        | succ i =>
          have him : i < m := by omega
          have hiq : i < q := by omega
          have i1 : (i : Int) < (m : Int) := by omega
          have i2 : (i : Int) < (q : Int) := by omega
          rw [show ((i + 1 : Nat) : Int) - 1 = (i : Int) by omega]
          obtain ⟨h, ho, z, rfl, hz, cz⟩ := (HN.out.below hB.out).look hiq
          by_cases hzn : z = nm
          · subst hzn
            obtain ⟨g, off, x, X1, x2, x3, X4, x5, x6, rfl, hx, k0, k1, k2, k3, k4, hvx⟩ := (HL.out.below hB.out).look him
            obtain rfl : some x = GT := by rw [← hG.out, gt_succ, hz, if_pos rfl, hx]
            have CT := Lib.hid (vcopy_any x _ wr hvx)
            clear hvx hx hz
            obtain ⟨xk, hxk⟩ : ∃ v, x.kind = v := ⟨_, rfl⟩
            obtain ⟨xb, hxb⟩ : ∃ v, x.isB = v := ⟨_, rfl⟩
            obtain ⟨xt, hxt⟩ : ∃ v, x.text = v := ⟨_, rfl⟩
            rw [hxk] at k0 CT
            rw [hxb] at k1 CT
            rw [hxt] at k2 CT
            have HXK := Lib.hid hxk
            have HXB := Lib.hid hxb
            have HXT := Lib.hid hxt
            clear hxk hxb hxt
            go_wp2_with fail
            refine CT.out.mono ?_
            rintro e w8 ⟨A8, m8, c8, B8, q8, d8, rfl, hb8, ho8⟩
            rw [HXK.out, HXB.out, HXT.out] at ho8 ⊢
            have HO8 := Lib.hid ho8
            have HB8 := Lib.hid hb8
            have RY := Lib.hid (RX.out.below hb8 RX.out.lt)
            clear ho8 hb8 k0 k1 k2 k3 k4 q3 q4 cz
            have f0 := RY.out.fz 0
            have d0 := RY.out.c0
            have f1 := RY.out.fz 1
            have d1 := RY.out.c1
            have f2 := RY.out.fz 2
            have d2 := RY.out.c2
            have f3 := RY.out.fz 3
            have d3 := RY.out.c3
            have f4 := RY.out.fz 4
            have d4 := RY.out.c4
            go_wp2_with fail
            have RZ := put5_bx (a := .int .i64 xk) (b := .bool xb) (s := .string xt) (x := .slice A8 m8 c8) (y := .slice B8 q8 d8) RY.out
            have hst := fun z hz => put5_heap (w := w8) (R := R) (a := .int .i64 xk) (b := .bool xb) (s := .string xt) (x := .slice A8 m8 c8) (y := .slice B8 q8 d8) z hz
            have hsz := put5_size (w := w8) (R := R) (a := .int .i64 xk) (b := .bool xb) (s := .string xt) (x := .slice A8 m8 c8) (y := .slice B8 q8 d8)
            have BZ := put5_below (a := .int .i64 xk) (b := .bool xb) (s := .string xt) (x := .slice A8 m8 c8) (y := .slice B8 q8 d8) (R := R) (hB.out.trans (HB8.out.mono hB.out.size)) (show w.heap.size ≤ R by have := HQ.out; omega)
            clear f0 f1 f2 f3 f4 d0 d1 d2 d3 d4
            rw [show ((((w8.setCell ⟨R, 0, none⟩ (.int .i64 xk)).setCell ⟨R, 1, none⟩ (.bool xb)).setCell ⟨R, 2, none⟩ (.string xt)).setCell ⟨R, 3, none⟩ (.slice A8 m8 c8)).setCell ⟨R, 4, none⟩ (.slice B8 q8 d8) = put5 w8 R (.int .i64 xk) (.bool xb) (.string xt) (.slice A8 m8 c8) (.slice B8 q8 d8) from rfl]
            generalize put5 w8 R (.int .i64 xk) (.bool xb) (.string xt) (.slice A8 m8 c8) (.slice B8 q8 d8) = w9 at *
            have e0 := RZ.c0
            have e1 := RZ.c1
            have e2 := RZ.c2
            have e3 := RZ.c3
            have e4 := RZ.c4
            have hRwr := RX.out.lt
            have hwwr := hB.out.size
            refine bodyPost_ret (v := .tuple #[.agg #[.int .i64 xk, .bool xb, .string xt, .slice A8 m8 c8, .slice B8 q8 d8], .bool true]) ?_ rfl ⟨BZ, A8, m8, c8, B8, q8, d8, by rw [HXK.out, HXB.out, HXT.out], ?_⟩
            · simp only [results]
              go_simp
            · rw [HXK.out, HXB.out, HXT.out]
              refine (HO8.out.kept x fun y hy => hst y (by omega)).mono fun y hy => ?_
              omega
          · have hzb := ba_ne hzn
            have HG1 : Hid (gt n l nm i = GT) := Lib.hid (by rw [← hG.out, gt_succ, hz, if_neg (fun e => hzn (by injection e))])
            go_wp2_with fail
            exact ⟨⟨i, by go_num, by omega, HG1, hB, hBQ, RX⟩, by simp [intOf]⟩
    · have hmin : min (q : Int) (m : Int) = (q : Int) := by omega
      go_wp2_with fail
      have HG0 : Hid (gt n l nm q = GT) := Lib.hid (by rw [← HGT.out]; unfold getT; rw [if_pos (show (Tr.mk 5 b s l n).kind = 5 from rfl)]; show _ = gt n l nm (min n.length l.length); rw [hqn, hlen, show min q m = q by omega])
      have BW0 : Hid (Below w.heap.size w W2) := by rw [HQ.out]; exact BW
      go_loopw [6] (fun iv wr => ∃ i : Nat, iv = .int .i64 ((i : Int) - 1) ∧ i ≤ q ∧ Hid (gt n l nm i = GT) ∧ Hid (Below w.heap.size w wr) ∧ Hid (Bx wr Q (.int .i64 5) (.bool b) (.string s) (.slice A m c) (.slice B q d)) ∧ Hid (Bx wr R (.int .i64 0) (.bool false) (.string ⟨#[]⟩) (.slice none 0 0) (.slice none 0 0))) (fun iv _ => (intOf iv + 1).toNat)
      case atStart => exact ⟨q, rfl, Nat.le_refl _, HG0, BW0, Q2, R2⟩
      case round =>
        obtain ⟨i, rfl, hi, hG, hB, hBQ, RX⟩ := hrel
        have q3 := hBQ.out.c3
        have q4 := hBQ.out.c4
        cases i with
        | zero =>
          have f0 := RX.out.fz 0
          have d0 := RX.out.c0
          have f1 := RX.out.fz 1
          have d1 := RX.out.c1
          have f2 := RX.out.fz 2
          have d2 := RX.out.c2
          have f3 := RX.out.fz 3
          have d3 := RX.out.c3
          have f4 := RX.out.fz 4
          have d4 := RX.out.c4
          obtain rfl : none = GT := hG.out
          rw [show ((0 : Nat) : Int) - 1 = -1 by omega]
          go_wp2_with fail
          rw [show ((((wr.setCell ⟨R, 0, none⟩ (.int .i64 0)).setCell ⟨R, 1, none⟩ (.bool false)).setCell ⟨R, 2, none⟩ (.string ⟨#[]⟩)).setCell ⟨R, 3, none⟩ (.slice none 0 0)).setCell ⟨R, 4, none⟩ (.slice none 0 0) = put5 wr R (.int .i64 0) (.bool false) (.string ⟨#[]⟩) (.slice none 0 0) (.slice none 0 0) from rfl]
          have RY := put5_bx (a := .int .i64 0) (b := .bool false) (s := .string ⟨#[]⟩) (x := .slice none 0 0) (y := .slice none 0 0) RX.out
          have BY := put5_below (a := .int .i64 0) (b := .bool false) (s := .string ⟨#[]⟩) (x := .slice none 0 0) (y := .slice none 0 0) (R := R) hB.out (show w.heap.size ≤ R by have := HQ.out; omega)
          clear f0 f1 f2 f3 f4 d0 d1 d2 d3 d4
          generalize put5 wr R (.int .i64 0) (.bool false) (.string ⟨#[]⟩) (.slice none 0 0) (.slice none 0 0) = w8 at *
          have e0 := RY.c0
          have e1 := RY.c1
          have e2 := RY.c2
          have e3 := RY.c3
          have e4 := RY.c4
          refine bodyPost_ret (v := .tuple #[.agg #[.int .i64 0, .bool false, .string ⟨#[]⟩, .slice none 0 0, .slice none 0 0], .bool false]) ?_ rfl ⟨BY, rfl⟩
          simp only [results]
          go_simp
        | succ i =>
          have him : i < m := by omega
          have hiq : i < q := by omega
          have i1 : (i : Int) < (m : Int) := by omega
          have i2 : (i : Int) < (q : Int) := by omega
          rw [show ((i + 1 : Nat) : Int) - 1 = (i : Int) by omega]
          obtain ⟨h, ho, z, rfl, hz, cz⟩ := (HN.out.below hB.out).look hiq
          by_cases hzn : z = nm
          · subst hzn
            obtain ⟨g, off, x, X1, x2, x3, X4, x5, x6, rfl, hx, k0, k1, k2, k3, k4, hvx⟩ := (HL.out.below hB.out).look him
            obtain rfl : some x = GT := by rw [← hG.out, gt_succ, hz, if_pos rfl, hx]
            have CT := Lib.hid (vcopy_any x _ wr hvx)
            clear hvx hx hz
            obtain ⟨xk, hxk⟩ : ∃ v, x.kind = v := ⟨_, rfl⟩
            obtain ⟨xb, hxb⟩ : ∃ v, x.isB = v := ⟨_, rfl⟩
            obtain ⟨xt, hxt⟩ : ∃ v, x.text = v := ⟨_, rfl⟩
            rw [hxk] at k0 CT
            rw [hxb] at k1 CT
            rw [hxt] at k2 CT
            have HXK := Lib.hid hxk
            have HXB := Lib.hid hxb
            have HXT := Lib.hid hxt
            clear hxk hxb hxt
            go_wp2_with fail
            refine CT.out.mono ?_
            rintro e w8 ⟨A8, m8, c8, B8, q8, d8, rfl, hb8, ho8⟩
            rw [HXK.out, HXB.out, HXT.out] at ho8 ⊢
            have HO8 := Lib.hid ho8
            have HB8 := Lib.hid hb8
            have RY := Lib.hid (RX.out.below hb8 RX.out.lt)
            clear ho8 hb8 k0 k1 k2 k3 k4 q3 q4 cz
            have f0 := RY.out.fz 0
            have d0 := RY.out.c0
            have f1 := RY.out.fz 1
            have d1 := RY.out.c1
            have f2 := RY.out.fz 2
            have d2 := RY.out.c2
            have f3 := RY.out.fz 3
            have d3 := RY.out.c3
            have f4 := RY.out.fz 4
            have d4 := RY.out.c4
            go_wp2_with fail
            have RZ := put5_bx (a := .int .i64 xk) (b := .bool xb) (s := .string xt) (x := .slice A8 m8 c8) (y := .slice B8 q8 d8) RY.out
            have hst := fun z hz => put5_heap (w := w8) (R := R) (a := .int .i64 xk) (b := .bool xb) (s := .string xt) (x := .slice A8 m8 c8) (y := .slice B8 q8 d8) z hz
            have hsz := put5_size (w := w8) (R := R) (a := .int .i64 xk) (b := .bool xb) (s := .string xt) (x := .slice A8 m8 c8) (y := .slice B8 q8 d8)
            have BZ := put5_below (a := .int .i64 xk) (b := .bool xb) (s := .string xt) (x := .slice A8 m8 c8) (y := .slice B8 q8 d8) (R := R) (hB.out.trans (HB8.out.mono hB.out.size)) (show w.heap.size ≤ R by have := HQ.out; omega)
            clear f0 f1 f2 f3 f4 d0 d1 d2 d3 d4
            rw [show ((((w8.setCell ⟨R, 0, none⟩ (.int .i64 xk)).setCell ⟨R, 1, none⟩ (.bool xb)).setCell ⟨R, 2, none⟩ (.string xt)).setCell ⟨R, 3, none⟩ (.slice A8 m8 c8)).setCell ⟨R, 4, none⟩ (.slice B8 q8 d8) = put5 w8 R (.int .i64 xk) (.bool xb) (.string xt) (.slice A8 m8 c8) (.slice B8 q8 d8) from rfl]
            generalize put5 w8 R (.int .i64 xk) (.bool xb) (.string xt) (.slice A8 m8 c8) (.slice B8 q8 d8) = w9 at *
            have e0 := RZ.c0
            have e1 := RZ.c1
            have e2 := RZ.c2
            have e3 := RZ.c3
            have e4 := RZ.c4
            have hRwr := RX.out.lt
            have hwwr := hB.out.size
            refine bodyPost_ret (v := .tuple #[.agg #[.int .i64 xk, .bool xb, .string xt, .slice A8 m8 c8, .slice B8 q8 d8], .bool true]) ?_ rfl ⟨BZ, A8, m8, c8, B8, q8, d8, by rw [HXK.out, HXB.out, HXT.out], ?_⟩
            · simp only [results]
              go_simp
            · rw [HXK.out, HXB.out, HXT.out]
              refine (HO8.out.kept x fun y hy => hst y (by omega)).mono fun y hy => ?_
              omega
          · have hzb := ba_ne hzn
            have HG1 : Hid (gt n l nm i = GT) := Lib.hid (by rw [← hG.out, gt_succ, hz, if_neg (fun e => hzn (by injection e))])
            go_wp2_with fail
            exact ⟨⟨i, by go_num, by omega, HG1, hB, hBQ, RX⟩, by simp [intOf]⟩
  · have RX := R2
    have f0 := RX.out.fz 0
    have d0 := RX.out.c0
    have f1 := RX.out.fz 1
    have d1 := RX.out.c1
    have f2 := RX.out.fz 2
    have d2 := RX.out.c2
    have f3 := RX.out.fz 3
    have d3 := RX.out.c3
    have f4 := RX.out.fz 4
    have d4 := RX.out.c4
    obtain rfl : none = GT := by
      rw [← HGT.out]
      unfold getT
      exact (if_neg hk5).symm
    go_wp2_with fail
    rw [show ((((W2.setCell ⟨R, 0, none⟩ (.int .i64 0)).setCell ⟨R, 1, none⟩ (.bool false)).setCell ⟨R, 2, none⟩ (.string ⟨#[]⟩)).setCell ⟨R, 3, none⟩ (.slice none 0 0)).setCell ⟨R, 4, none⟩ (.slice none 0 0) = put5 W2 R (.int .i64 0) (.bool false) (.string ⟨#[]⟩) (.slice none 0 0) (.slice none 0 0) from rfl]
    have RY := put5_bx (a := .int .i64 0) (b := .bool false) (s := .string ⟨#[]⟩) (x := .slice none 0 0) (y := .slice none 0 0) RX.out
    have BY := put5_below (a := .int .i64 0) (b := .bool false) (s := .string ⟨#[]⟩) (x := .slice none 0 0) (y := .slice none 0 0) (R := R) (by have := BW.out; rwa [← HQ.out] at this) (show w.heap.size ≤ R by have := HQ.out; omega)
    clear f0 f1 f2 f3 f4 d0 d1 d2 d3 d4
    generalize put5 W2 R (.int .i64 0) (.bool false) (.string ⟨#[]⟩) (.slice none 0 0) (.slice none 0 0) = w8 at *
    have e0 := RY.c0
    have e1 := RY.c1
    have e2 := RY.c2
    have e3 := RY.c3
    have e4 := RY.c4
    refine bodyPost_ret (v := .tuple #[.agg #[.int .i64 0, .bool false, .string ⟨#[]⟩, .slice none 0 0, .slice none 0 0], .bool false]) ?_ rfl ⟨BY, rfl⟩
    simp only [results]
    go_simp
set_option maxRecDepth 100000 in
set_option maxHeartbeats 4000000 in
theorem vlist_any (A : Option Addr) (m c : Nat) (l : List Tr) (w : World) (hl : VL w A m c l) : Calls Tryd.prog 29 #[.slice A m c] w (CpP (.mk 4 false ⟨#[]⟩ l []) w) := by
  have hv : ∀ w', Below w.heap.size w w' → Vl w' (.agg #[.int .i64 4, .bool false, .string ⟨#[]⟩, .slice A m c, .slice none 0 0]) (.mk 4 false ⟨#[]⟩ l []) := fun w' h =>
    Vl.shut (t := .mk 4 false ⟨#[]⟩ l []) (hl.below h) (Nm.none_ w') (show (-9223372036854775808 : Int) ≤ 4 ∧ (4 : Int) ≤ 9223372036854775807 by omega) (show 0 ≤ 140737488351232 by omega)
  obtain ⟨R, hR⟩ : ∃ R, w.heap.size = R := ⟨_, rfl⟩
  obtain ⟨W2, hW2⟩ : ∃ W2, w.alloc (.cells #[.int .i64 0, .bool false, .string ⟨#[]⟩, .slice none 0 0, .slice none 0 0] 25) = W2 := ⟨_, rfl⟩
  have b2 : Below w.heap.size w W2 := by rw [← hW2]; exact below_allocV w _
  have B2 := Lib.hid b2
  have R2 : Hid (Bx W2 R (.int .i64 0) (.bool false) (.string ⟨#[]⟩) (.slice none 0 0) (.slice none 0 0)) := Lib.hid (by rw [← hW2, ← hR]; exact heap_alloc_new w _)
  have HR := Lib.hid hR
  have HW2 := Lib.hid hW2
  have HV := Lib.hid (hv _ b2)
  clear hv b2 hl hW2 hR
  go_enter Tryd.func29, Tryd.ntmps29
  go_wp2_with fail
  rw [HR.out]
  rw [HW2.out]
  refine (vcopy_any _ _ _ HV.out).mono ?_
  rintro e w8 ⟨A8, m8, c8, B8, q8, d8, rfl, hb8, ho8⟩
  simp only [Tr.kind, Tr.isB, Tr.text] at ho8 ⊢
  have HO8 := Lib.hid ho8
  have HB8 := Lib.hid hb8
  have RY := Lib.hid (R2.out.below hb8 R2.out.lt)
  clear ho8 hb8
  have f0 := RY.out.fz 0
  have d0 := RY.out.c0
  have f1 := RY.out.fz 1
  have d1 := RY.out.c1
  have f2 := RY.out.fz 2
  have d2 := RY.out.c2
  have f3 := RY.out.fz 3
  have d3 := RY.out.c3
  have f4 := RY.out.fz 4
  have d4 := RY.out.c4
  go_wp2_with fail
  have RZ := put5_bx (a := .int .i64 4) (b := .bool false) (s := .string ⟨#[]⟩) (x := .slice A8 m8 c8) (y := .slice B8 q8 d8) RY.out
  have hst := fun z hz => put5_heap (w := w8) (R := R) (a := .int .i64 4) (b := .bool false) (s := .string ⟨#[]⟩) (x := .slice A8 m8 c8) (y := .slice B8 q8 d8) z hz
  have hsz := put5_size (w := w8) (R := R) (a := .int .i64 4) (b := .bool false) (s := .string ⟨#[]⟩) (x := .slice A8 m8 c8) (y := .slice B8 q8 d8)
  have BZ := put5_below (a := .int .i64 4) (b := .bool false) (s := .string ⟨#[]⟩) (x := .slice A8 m8 c8) (y := .slice B8 q8 d8) (R := R) (extV B2.out HB8.out) (show w.heap.size ≤ R by have := HR.out; omega)
  clear f0 f1 f2 f3 f4 d0 d1 d2 d3 d4
  rw [show ((((w8.setCell ⟨R, 0, none⟩ (.int .i64 4)).setCell ⟨R, 1, none⟩ (.bool false)).setCell ⟨R, 2, none⟩ (.string ⟨#[]⟩)).setCell ⟨R, 3, none⟩ (.slice A8 m8 c8)).setCell ⟨R, 4, none⟩ (.slice B8 q8 d8) = put5 w8 R (.int .i64 4) (.bool false) (.string ⟨#[]⟩) (.slice A8 m8 c8) (.slice B8 q8 d8) from rfl]
  generalize put5 w8 R (.int .i64 4) (.bool false) (.string ⟨#[]⟩) (.slice A8 m8 c8) (.slice B8 q8 d8) = w9 at *
  have e0 := RZ.c0
  have e1 := RZ.c1
  have e2 := RZ.c2
  have e3 := RZ.c3
  have e4 := RZ.c4
  have hRw := R2.out.lt
  have hww := B2.out.size
  refine bodyPost_ret (v := .agg #[.int .i64 4, .bool false, .string ⟨#[]⟩, .slice A8 m8 c8, .slice B8 q8 d8]) ?_ rfl ⟨A8, m8, c8, B8, q8, d8, rfl, BZ, ?_⟩
  · simp only [results]
    go_simp
  · refine (HO8.out.kept (.mk 4 false ⟨#[]⟩ l []) fun y hy => hst y (by omega)).mono fun y hy => ?_
    omega

set_option maxRecDepth 100000 in
set_option maxHeartbeats 4000000 in
theorem vmake_any (A : Option Addr) (m c : Nat) (l : List Tr) (B : Option Addr) (q d : Nat) (n : List ByteArray) (w : World) (hl : VL w A m c l) (hn : Nm w B q d n) :
    Calls Tryd.prog 27 #[.slice B q d, .slice A m c] w (MkP l n w) := by
  have hv : ∀ w', Below w.heap.size w w' → Vl w' (.agg #[.int .i64 5, .bool false, .string ⟨#[]⟩, .slice A m c, .slice B q d]) (.mk 5 false ⟨#[]⟩ l n) := fun w' h =>
    Vl.shut (t := .mk 5 false ⟨#[]⟩ l n) (hl.below h) (hn.below h) (show (-9223372036854775808 : Int) ≤ 5 ∧ (5 : Int) ≤ 9223372036854775807 by omega) (show 0 ≤ 140737488351232 by omega)
  obtain ⟨R, hR⟩ : ∃ R, w.heap.size = R := ⟨_, rfl⟩
  obtain ⟨W2, hW2⟩ : ∃ W2, w.alloc (.cells #[.int .i64 0, .bool false, .string ⟨#[]⟩, .slice none 0 0, .slice none 0 0] 25) = W2 := ⟨_, rfl⟩
  have b2 : Below w.heap.size w W2 := by rw [← hW2]; exact below_allocV w _
  have B2 := Lib.hid b2
  have R2 : Hid (Bx W2 R (.int .i64 0) (.bool false) (.string ⟨#[]⟩) (.slice none 0 0) (.slice none 0 0)) := Lib.hid (by rw [← hW2, ← hR]; exact heap_alloc_new w _)
  have HR := Lib.hid hR
  have HW2 := Lib.hid hW2
  have HV := Lib.hid (hv _ b2)
  have hlen : l.length = m := hl.len
  have hqn : n.length = q := hn.len
  have hmx : m ≤ 1759218604390 := by have := hl.small; omega
  have hqx : q ≤ 8796093022208 := by have := hn.small; omega
  clear hv b2 hl hW2 hR hn
  go_enter Tryd.func27, Tryd.ntmps27
  by_cases hqm : q = m
  · subst hqm
    go_wp2_with fail
    rw [HR.out]
    rw [HW2.out]
    refine (vcopy_any _ _ _ HV.out).mono ?_
    rintro e w8 ⟨A8, m8, c8, B8, q8, d8, rfl, hb8, ho8⟩
    simp only [Tr.kind, Tr.isB, Tr.text] at ho8 ⊢
    have HO8 := Lib.hid ho8
    have HB8 := Lib.hid hb8
    have RY := Lib.hid (R2.out.below hb8 R2.out.lt)
    clear ho8 hb8
    have f0 := RY.out.fz 0
    have d0 := RY.out.c0
    have f1 := RY.out.fz 1
    have d1 := RY.out.c1
    have f2 := RY.out.fz 2
    have d2 := RY.out.c2
    have f3 := RY.out.fz 3
    have d3 := RY.out.c3
    have f4 := RY.out.fz 4
    have d4 := RY.out.c4
    go_wp2_with fail
    have RZ := put5_bx (a := .int .i64 5) (b := .bool false) (s := .string ⟨#[]⟩) (x := .slice A8 m8 c8) (y := .slice B8 q8 d8) RY.out
    have hst := fun z hz => put5_heap (w := w8) (R := R) (a := .int .i64 5) (b := .bool false) (s := .string ⟨#[]⟩) (x := .slice A8 m8 c8) (y := .slice B8 q8 d8) z hz
    have hsz := put5_size (w := w8) (R := R) (a := .int .i64 5) (b := .bool false) (s := .string ⟨#[]⟩) (x := .slice A8 m8 c8) (y := .slice B8 q8 d8)
    have BZ := put5_below (a := .int .i64 5) (b := .bool false) (s := .string ⟨#[]⟩) (x := .slice A8 m8 c8) (y := .slice B8 q8 d8) (R := R) (extV B2.out HB8.out) (show w.heap.size ≤ R by have := HR.out; omega)
    clear f0 f1 f2 f3 f4 d0 d1 d2 d3 d4
    rw [show ((((w8.setCell ⟨R, 0, none⟩ (.int .i64 5)).setCell ⟨R, 1, none⟩ (.bool false)).setCell ⟨R, 2, none⟩ (.string ⟨#[]⟩)).setCell ⟨R, 3, none⟩ (.slice A8 m8 c8)).setCell ⟨R, 4, none⟩ (.slice B8 q8 d8) = put5 w8 R (.int .i64 5) (.bool false) (.string ⟨#[]⟩) (.slice A8 m8 c8) (.slice B8 q8 d8) from rfl]
    generalize put5 w8 R (.int .i64 5) (.bool false) (.string ⟨#[]⟩) (.slice A8 m8 c8) (.slice B8 q8 d8) = w9 at *
    have e0 := RZ.c0
    have e1 := RZ.c1
    have e2 := RZ.c2
    have e3 := RZ.c3
    have e4 := RZ.c4
    have hRw := R2.out.lt
    have hww := B2.out.size
    refine bodyPost_ret (v := .tuple #[.agg #[.int .i64 5, .bool false, .string ⟨#[]⟩, .slice A8 m8 c8, .slice B8 q8 d8], .int .i64 0]) ?_ rfl (mk_yes BZ (by omega) ?_)
    · simp only [results]
      go_simp
    · refine (HO8.out.kept (.mk 5 false ⟨#[]⟩ l n) fun y hy => hst y (by omega)).mono fun y hy => ?_
      omega
  · have hqi : ¬ (q : Int) = (m : Int) := by omega
    go_upto_region 2 with fail
    rw [HR.out]
    rw [HW2.out]
    have RY := R2
    have f0 := RY.out.fz 0
    have d0 := RY.out.c0
    have f1 := RY.out.fz 1
    have d1 := RY.out.c1
    have f2 := RY.out.fz 2
    have d2 := RY.out.c2
    have f3 := RY.out.fz 3
    have d3 := RY.out.c3
    have f4 := RY.out.fz 4
    have d4 := RY.out.c4
    go_wp2_with fail
    rw [show ((((W2.setCell ⟨R, 0, none⟩ (.int .i64 0)).setCell ⟨R, 1, none⟩ (.bool false)).setCell ⟨R, 2, none⟩ (.string ⟨#[]⟩)).setCell ⟨R, 3, none⟩ (.slice none 0 0)).setCell ⟨R, 4, none⟩ (.slice none 0 0) = put5 W2 R (.int .i64 0) (.bool false) (.string ⟨#[]⟩) (.slice none 0 0) (.slice none 0 0) from rfl]
    have RZ := put5_bx (a := .int .i64 0) (b := .bool false) (s := .string ⟨#[]⟩) (x := .slice none 0 0) (y := .slice none 0 0) RY.out
    have BZ := put5_below (a := .int .i64 0) (b := .bool false) (s := .string ⟨#[]⟩) (x := .slice none 0 0) (y := .slice none 0 0) (R := R) B2.out (show w.heap.size ≤ R by have := HR.out; omega)
    clear f0 f1 f2 f3 f4 d0 d1 d2 d3 d4
    generalize put5 W2 R (.int .i64 0) (.bool false) (.string ⟨#[]⟩) (.slice none 0 0) (.slice none 0 0) = w9 at *
    have e0 := RZ.c0
    have e1 := RZ.c1
    have e2 := RZ.c2
    have e3 := RZ.c3
    have e4 := RZ.c4
    refine bodyPost_ret (v := .tuple #[.agg #[.int .i64 0, .bool false, .string ⟨#[]⟩, .slice none 0 0, .slice none 0 0], .int .i64 2]) ?_ rfl (mk_no BZ (by omega))
    simp only [results]
    go_simp

set_option maxRecDepth 100000 in
set_option maxHeartbeats 4000000 in
theorem text_any (s : ByteArray) (w : World) :
    Calls Tryd.prog 32 #[.string s] w fun e w' => e = .returned (.agg #[.int .i64 3, .bool false, .string s, .slice none 0 0, .slice none 0 0]) ∧ Below w.heap.size w w' := by
  obtain ⟨R, hR⟩ : ∃ R, w.heap.size = R := ⟨_, rfl⟩
  obtain ⟨W2, hW2⟩ : ∃ W2, w.alloc (.cells #[.int .i64 0, .bool false, .string ⟨#[]⟩, .slice none 0 0, .slice none 0 0] 25) = W2 := ⟨_, rfl⟩
  have b2 : Below w.heap.size w W2 := by rw [← hW2]; exact below_allocV w _
  have B2 := Lib.hid b2
  have R2 : Hid (Bx W2 R (.int .i64 0) (.bool false) (.string ⟨#[]⟩) (.slice none 0 0) (.slice none 0 0)) := Lib.hid (by rw [← hW2, ← hR]; exact heap_alloc_new w _)
  have HR := Lib.hid hR
  have HW2 := Lib.hid hW2
  clear b2 hW2 hR
  go_enter Tryd.func32, Tryd.ntmps32
  go_upto_region 1 with fail
  rw [HR.out]
  rw [HW2.out]
  have RY := R2
  have f0 := RY.out.fz 0
  have d0 := RY.out.c0
  have f1 := RY.out.fz 1
  have d1 := RY.out.c1
  have f2 := RY.out.fz 2
  have d2 := RY.out.c2
  have f3 := RY.out.fz 3
  have d3 := RY.out.c3
  have f4 := RY.out.fz 4
  have d4 := RY.out.c4
  go_wp2_with fail
  rw [show ((((W2.setCell ⟨R, 0, none⟩ (.int .i64 3)).setCell ⟨R, 1, none⟩ (.bool false)).setCell ⟨R, 2, none⟩ (.string s)).setCell ⟨R, 3, none⟩ (.slice none 0 0)).setCell ⟨R, 4, none⟩ (.slice none 0 0) = put5 W2 R (.int .i64 3) (.bool false) (.string s) (.slice none 0 0) (.slice none 0 0) from rfl]
  have RZ := put5_bx (a := .int .i64 3) (b := .bool false) (s := .string s) (x := .slice none 0 0) (y := .slice none 0 0) RY.out
  have BZ := put5_below (a := .int .i64 3) (b := .bool false) (s := .string s) (x := .slice none 0 0) (y := .slice none 0 0) (R := R) B2.out (show w.heap.size ≤ R by have := HR.out; omega)
  clear f0 f1 f2 f3 f4 d0 d1 d2 d3 d4
  generalize put5 W2 R (.int .i64 3) (.bool false) (.string s) (.slice none 0 0) (.slice none 0 0) = w9 at *
  have e0 := RZ.c0
  have e1 := RZ.c1
  have e2 := RZ.c2
  have e3 := RZ.c3
  have e4 := RZ.c4
  refine bodyPost_ret (v := .agg #[.int .i64 3, .bool false, .string s, .slice none 0 0, .slice none 0 0]) ?_ rfl ⟨rfl, BZ⟩
  simp only [results]
  go_simp
set_option maxRecDepth 100000 in
set_option maxHeartbeats 4000000 in
theorem bool_any (b : Bool) (w : World) :
    Calls Tryd.prog 33 #[.bool b] w fun e w' => e = .returned (.agg #[.int .i64 1, .bool b, .string ⟨#[]⟩, .slice none 0 0, .slice none 0 0]) ∧ Below w.heap.size w w' := by
  obtain ⟨R, hR⟩ : ∃ R, w.heap.size = R := ⟨_, rfl⟩
  obtain ⟨W2, hW2⟩ : ∃ W2, w.alloc (.cells #[.int .i64 0, .bool false, .string ⟨#[]⟩, .slice none 0 0, .slice none 0 0] 25) = W2 := ⟨_, rfl⟩
  have b2 : Below w.heap.size w W2 := by rw [← hW2]; exact below_allocV w _
  have B2 := Lib.hid b2
  have R2 : Hid (Bx W2 R (.int .i64 0) (.bool false) (.string ⟨#[]⟩) (.slice none 0 0) (.slice none 0 0)) := Lib.hid (by rw [← hW2, ← hR]; exact heap_alloc_new w _)
  have HR := Lib.hid hR
  have HW2 := Lib.hid hW2
  clear b2 hW2 hR
  go_enter Tryd.func33, Tryd.ntmps33
  go_upto_region 1 with fail
  rw [HR.out]
  rw [HW2.out]
  have RY := R2
  have f0 := RY.out.fz 0
  have d0 := RY.out.c0
  have f1 := RY.out.fz 1
  have d1 := RY.out.c1
  have f2 := RY.out.fz 2
  have d2 := RY.out.c2
  have f3 := RY.out.fz 3
  have d3 := RY.out.c3
  have f4 := RY.out.fz 4
  have d4 := RY.out.c4
  go_wp2_with fail
  rw [show ((((W2.setCell ⟨R, 0, none⟩ (.int .i64 1)).setCell ⟨R, 1, none⟩ (.bool b)).setCell ⟨R, 2, none⟩ (.string ⟨#[]⟩)).setCell ⟨R, 3, none⟩ (.slice none 0 0)).setCell ⟨R, 4, none⟩ (.slice none 0 0) = put5 W2 R (.int .i64 1) (.bool b) (.string ⟨#[]⟩) (.slice none 0 0) (.slice none 0 0) from rfl]
  have RZ := put5_bx (a := .int .i64 1) (b := .bool b) (s := .string ⟨#[]⟩) (x := .slice none 0 0) (y := .slice none 0 0) RY.out
  have BZ := put5_below (a := .int .i64 1) (b := .bool b) (s := .string ⟨#[]⟩) (x := .slice none 0 0) (y := .slice none 0 0) (R := R) B2.out (show w.heap.size ≤ R by have := HR.out; omega)
  clear f0 f1 f2 f3 f4 d0 d1 d2 d3 d4
  generalize put5 W2 R (.int .i64 1) (.bool b) (.string ⟨#[]⟩) (.slice none 0 0) (.slice none 0 0) = w9 at *
  have e0 := RZ.c0
  have e1 := RZ.c1
  have e2 := RZ.c2
  have e3 := RZ.c3
  have e4 := RZ.c4
  refine bodyPost_ret (v := .agg #[.int .i64 1, .bool b, .string ⟨#[]⟩, .slice none 0 0, .slice none 0 0]) ?_ rfl ⟨rfl, BZ⟩
  simp only [results]
  go_simp
theorem itoa_num (x : Int) : (⟨(Lib.itoa x).toArray⟩ : ByteArray) = numT x := by
  unfold numT
  by_cases hx : x < 0
  · rw [if_pos hx]
    have h := Dm.itoa_bs x.natAbs
    unfold Lib.itoa at h ⊢
    rw [if_neg (by omega), Int.toNat_natCast] at h
    rw [if_pos hx]
    unfold Dm.bs at h ⊢
    rw [List.map_cons]
    injection h with h
    have h2 := congrArg Array.toList h
    simp at h2
    rw [h2]
    rfl
  · rw [if_neg hx, ← Dm.itoa_bs x.natAbs, show ((x.natAbs : Nat) : Int) = x by omega]
set_option maxRecDepth 100000 in
set_option maxHeartbeats 4000000 in
theorem number_any (x : Int) (h0 : -9223372036854775808 ≤ x) (h1 : x ≤ 9223372036854775807) (w : World) (ht : It.Tab w) :
    Calls Tryd.prog 30 #[.int .i64 x] w fun e w' => e = .returned (.agg #[.int .i64 2, .bool false, .string (numT x), .slice none 0 0, .slice none 0 0]) ∧ Below w.heap.size w w' := by
  obtain ⟨R, hR⟩ : ∃ R, w.heap.size = R := ⟨_, rfl⟩
  obtain ⟨W2, hW2⟩ : ∃ W2, w.alloc (.cells #[.int .i64 0, .bool false, .string ⟨#[]⟩, .slice none 0 0, .slice none 0 0] 25) = W2 := ⟨_, rfl⟩
  have b2 : Below w.heap.size w W2 := by rw [← hW2]; exact below_allocV w _
  have B2 := Lib.hid b2
  have R2 : Hid (Bx W2 R (.int .i64 0) (.bool false) (.string ⟨#[]⟩) (.slice none 0 0) (.slice none 0 0)) := Lib.hid (by rw [← hW2, ← hR]; exact heap_alloc_new w _)
  have HR := Lib.hid hR
  have HW2 := Lib.hid hW2
  clear b2 hW2 hR
  have T2 := Lib.hid (fun (w' : World) (h : Below w.heap.size w w') => It.itoa_any x h0 h1 w' (ht.below h))
  clear ht
  go_enter Tryd.func30, Tryd.ntmps30
  go_upto_region 1 with fail
  rw [HR.out]
  rw [HW2.out]
  go_wp2_with fail
  refine (T2.out W2 B2.out).mono ?_
  rintro e w8 ⟨rfl, hb8⟩
  rw [itoa_num]
  have HB8 := Lib.hid hb8
  have RY := Lib.hid (R2.out.below hb8 R2.out.lt)
  clear hb8
  have f0 := RY.out.fz 0
  have d0 := RY.out.c0
  have f1 := RY.out.fz 1
  have d1 := RY.out.c1
  have f2 := RY.out.fz 2
  have d2 := RY.out.c2
  have f3 := RY.out.fz 3
  have d3 := RY.out.c3
  have f4 := RY.out.fz 4
  have d4 := RY.out.c4
  go_wp2_with fail
  rw [show ((((w8.setCell ⟨R, 0, none⟩ (.int .i64 2)).setCell ⟨R, 1, none⟩ (.bool false)).setCell ⟨R, 2, none⟩ (.string (numT x))).setCell ⟨R, 3, none⟩ (.slice none 0 0)).setCell ⟨R, 4, none⟩ (.slice none 0 0) = put5 w8 R (.int .i64 2) (.bool false) (.string (numT x)) (.slice none 0 0) (.slice none 0 0) from rfl]
  have RZ := put5_bx (a := .int .i64 2) (b := .bool false) (s := .string (numT x)) (x := .slice none 0 0) (y := .slice none 0 0) RY.out
  have BZ := put5_below (a := .int .i64 2) (b := .bool false) (s := .string (numT x)) (x := .slice none 0 0) (y := .slice none 0 0) (R := R) (extV B2.out HB8.out) (show w.heap.size ≤ R by have := HR.out; omega)
  clear f0 f1 f2 f3 f4 d0 d1 d2 d3 d4
  generalize put5 w8 R (.int .i64 2) (.bool false) (.string (numT x)) (.slice none 0 0) (.slice none 0 0) = w9 at *
  have e0 := RZ.c0
  have e1 := RZ.c1
  have e2 := RZ.c2
  have e3 := RZ.c3
  have e4 := RZ.c4
  refine bodyPost_ret (v := .agg #[.int .i64 2, .bool false, .string (numT x), .slice none 0 0, .slice none 0 0]) ?_ rfl ⟨rfl, BZ⟩
  simp only [results]
  go_simp

end Vt
end Go.Proofs.YtlgeibaejeiemaaDoor
