/-
  What the document's Get of layer 10 computes.
-/
import Derived.Test.YtlgeibaejeiemaaDoorVi
namespace Go.Proofs.YtlgeibaejeiemaaDoor
set_option linter.unusedVariables false
set_option linter.unusedSimpArgs false
open Go.RowKit
namespace Vt
open Wd We

/-- the last of the first i names that is the name given: what stands there -/
def gt (n : List ByteArray) (l : List Tr) (s : ByteArray) : Nat → Option Tr
  | 0 => none
  | i + 1 => if n[i]? = some s then l[i]? else gt n l s i
theorem gt_succ (n : List ByteArray) (l : List Tr) (s : ByteArray) (i : Nat) : gt n l s (i + 1) = if n[i]? = some s then l[i]? else gt n l s i := rfl
def getT (t : Tr) (s : ByteArray) : Option Tr := if t.kind = 5 then gt t.names t.list s (min t.names.length t.list.length) else none
/-- what Get answers -/
def GtP (r : Option Tr) (w : World) (e : Ending) (w' : World) : Prop := Below w.heap.size w w' ∧ match r with
  | none => e = .returned (.tuple #[.agg #[.int .i64 0, .bool false, .string ⟨#[]⟩, .slice none 0 0, .slice none 0 0], .bool false])
  | some t => ∃ A m c B q d, e = .returned (.tuple #[.agg #[.int .i64 t.kind, .bool t.isB, .string t.text, .slice A m c, .slice B q d], .bool true]) ∧
    OV 25 9 w' (fun x => w.heap.size ≤ x ∧ x < w'.heap.size) (.agg #[.int .i64 t.kind, .bool t.isB, .string t.text, .slice A m c, .slice B q d]) t

/-- five cells stored one by one -/
def put5 (w : World) (R : Nat) (a b s x y : Value) : World := ((((w.setCell ⟨R, 0, none⟩ a).setCell ⟨R, 1, none⟩ b).setCell ⟨R, 2, none⟩ s).setCell ⟨R, 3, none⟩ x).setCell ⟨R, 4, none⟩ y
section
variable {w : World} {R : Nat} {a b s x y a' b' s' x' y' : Value}
theorem put5_bx (h : Bx w R a' b' s' x' y') : Bx (put5 w R a b s x y) R a b s x y := ((((h.set0 a).set1 b).set2 s).set3 x).set4 y
theorem put5_heap (z : Nat) (hz : z ≠ R) : (put5 w R a b s x y).heap[z]? = w.heap[z]? := by
  unfold put5
  rw [Below.heap_setCell _ _ _ _ hz, Below.heap_setCell _ _ _ _ hz, Below.heap_setCell _ _ _ _ hz, Below.heap_setCell _ _ _ _ hz, Below.heap_setCell _ _ _ _ hz]
theorem put5_size : (put5 w R a b s x y).heap.size = w.heap.size := by unfold put5; simp [World.setCell]
theorem put5_below {w0 : World} {B : Nat} (h : Below B w0 w) (hR : B ≤ R) : Below B w0 (put5 w R a b s x y) :=
  ((((h.setCell (p := ⟨R, 0, none⟩) hR a).setCell (p := ⟨R, 1, none⟩) hR b).setCell (p := ⟨R, 2, none⟩) hR s).setCell (p := ⟨R, 3, none⟩) hR x).setCell (p := ⟨R, 4, none⟩) hR y
end

set_option maxRecDepth 100000 in
set_option maxHeartbeats 16000000 in
theorem rget_any (t : Tr) (v : Value) (nm : ByteArray) (w : World) (hv : Vl w v t) : Calls Tryd.prog 25 #[v, .string nm] w (GtP (getT t nm) w) := by
  cases t with | mk k b s l n =>
  obtain ⟨A, m, c, B, q, d, rfl, hl, hn, hk, hs⟩ := hv.open_
  show Calls _ _ #[.agg #[.int .i64 k, .bool b, .string s, .slice A m c, .slice B q d], .string nm] w _
  have HL : Hid (VL w A m c l) := Lib.hid hl
  have HN : Hid (Nm w B q d n) := Lib.hid hn
  have hlen : l.length = m := hl.len
  have hqn : n.length = q := hn.len
  have hmx : m ≤ 1759218604390 := by have := hl.small; omega
  have hqx : q ≤ 8796093022208 := by have := hn.small; omega
  obtain ⟨Q, hQ⟩ : ∃ Q, w.heap.size = Q := ⟨_, rfl⟩
  obtain ⟨R, hR⟩ : ∃ R, Q + 1 = R := ⟨_, rfl⟩
  obtain ⟨W1, hW1⟩ : ∃ W1, w.alloc (.cells #[.int .i64 k, .bool b, .string s, .slice A m c, .slice B q d] 25) = W1 := ⟨_, rfl⟩
  obtain ⟨W2, hW2⟩ : ∃ W2, W1.alloc (.cells #[.int .i64 0, .bool false, .string ⟨#[]⟩, .slice none 0 0, .slice none 0 0] 25) = W2 := ⟨_, rfl⟩
  have z1 : W1.heap.size = R := by rw [← hW1, World.size_alloc, hQ, hR]
  have z2 : W2.heap.size = R + 1 := by rw [← hW2, World.size_alloc, z1]
  have b1 : Below Q w W1 := by rw [← hW1, ← hQ]; exact below_allocV w _
  have b2 : Below R W1 W2 := by rw [← hW2, ← z1]; exact below_allocV W1 _
  have q1 : Bx W1 Q (.int .i64 k) (.bool b) (.string s) (.slice A m c) (.slice B q d) := by rw [← hW1, ← hQ]; exact heap_alloc_new w _
  have r2 : Bx W2 R (.int .i64 0) (.bool false) (.string ⟨#[]⟩) (.slice none 0 0) (.slice none 0 0) := by rw [← hW2, ← z1]; exact heap_alloc_new W1 _
  have Q2 := Lib.hid (q1.below b2 (by omega))
  have R2 := Lib.hid r2
  have BW := Lib.hid (b1.trans (b2.mono (by omega)))
  have HW1 := Lib.hid hW1
  have HW2 := Lib.hid hW2
  have HQ := Lib.hid hQ
  have HR := Lib.hid hR
  have Z1 := Lib.hid z1
  have Z2 := Lib.hid z2
  have hQR : Q < R := by omega
  clear hv hl hn hk hs hW1 hW2 hQ hR z1 z2 b1 b2 q1 r2
  obtain ⟨GT, hGT⟩ : ∃ g, getT (.mk k b s l n) nm = g := ⟨_, rfl⟩
  have HGT := Lib.hid hGT
  rw [hGT]
  clear hGT
  go_enter Tryd.func25, Tryd.ntmps25
  go_upto_region 1 with fail
  rw [HW1.out, HQ.out]
  rw [HR.out, HW2.out]
  have q0 := Q2.out.c0
  have q3 := Q2.out.c3
  have q4 := Q2.out.c4
  by_cases hk5 : k = 5
  · subst hk5
    go_wp2_with fail
    · rename_i hmq
      have HG0 : Hid (gt n l nm m = GT) := Lib.hid (by rw [← HGT.out]; unfold getT; rw [if_pos (show (Tr.mk 5 b s l n).kind = 5 from rfl)]; show _ = gt n l nm (min n.length l.length); rw [hqn, hlen, show min q m = m by omega])
      have BW0 : Hid (Below w.heap.size w W2) := by rw [HQ.out]; exact BW
      go_loopw [6] (fun iv wr => ∃ i : Nat, iv = .int .i64 ((i : Int) - 1) ∧ i ≤ m ∧ Hid (gt n l nm i = GT) ∧ Hid (Below w.heap.size w wr) ∧ Hid (Bx wr Q (.int .i64 5) (.bool b) (.string s) (.slice A m c) (.slice B q d)) ∧ Hid (Bx wr R (.int .i64 0) (.bool false) (.string ⟨#[]⟩) (.slice none 0 0) (.slice none 0 0))) (fun iv _ => (intOf iv + 1).toNat)
      case atStart => exact ⟨m, rfl, Nat.le_refl _, HG0, BW0, Q2, R2⟩
      case round =>
        obtain ⟨i, rfl, hi, hG, hB, hBQ, RX⟩ := hrel
        have q3 := hBQ.out.c3
        have q4 := hBQ.out.c4
        cases i with
        | zero =>
          have f0 := RX.out.fz 0
          have d0 := RX.out.c0
          have f1 := RX.out.fz 1
          have d1 := RX.out.c1
          have f2 := RX.out.fz 2
          have d2 := RX.out.c2
          have f3 := RX.out.fz 3
          have d3 := RX.out.c3
          have f4 := RX.out.fz 4
          have d4 := RX.out.c4
          obtain rfl : none = GT := hG.out
          rw [show ((0 : Nat) : Int) - 1 = -1 by omega]
          go_wp2_with fail
          rw [show ((((wr.setCell ⟨R, 0, none⟩ (.int .i64 0)).setCell ⟨R, 1, none⟩ (.bool false)).setCell ⟨R, 2, none⟩ (.string ⟨#[]⟩)).setCell ⟨R, 3, none⟩ (.slice none 0 0)).setCell ⟨R, 4, none⟩ (.slice none 0 0) = put5 wr R (.int .i64 0) (.bool false) (.string ⟨#[]⟩) (.slice none 0 0) (.slice none 0 0) from rfl]
          have RY := put5_bx (a := .int .i64 0) (b := .bool false) (s := .string ⟨#[]⟩) (x := .slice none 0 0) (y := .slice none 0 0) RX.out
          have BY := put5_below (a := .int .i64 0) (b := .bool false) (s := .string ⟨#[]⟩) (x := .slice none 0 0) (y := .slice none 0 0) (R := R) hB.out (show w.heap.size ≤ R by have := HQ.out; omega)
          clear f0 f1 f2 f3 f4 d0 d1 d2 d3 d4
          generalize put5 wr R (.int .i64 0) (.bool false) (.string ⟨#[]⟩) (.slice none 0 0) (.slice none 0 0) = w8 at *
          have e0 := RY.c0
          have e1 := RY.c1
          have e2 := RY.c2
          have e3 := RY.c3
          have e4 := RY.c4
          refine bodyPost_ret (v := .tuple #[.agg #[.int .i64 0, .bool false, .string ⟨#[]⟩, .slice none 0 0, .slice none 0 0], .bool false]) ?_ rfl ⟨BY, rfl⟩
          simp only [results]
          go_simp
        | succ i =>
          have him : i < m := by omega
          have hiq : i < q := by omega
          have i1 : (i : Int) < (m : Int) := by omega
          have i2 : (i : Int) < (q : Int) := by omega
          rw [show ((i + 1 : Nat) : Int) - 1 = (i : Int) by omega]
          obtain ⟨h, ho, z, rfl, hz, cz⟩ := (HN.out.below hB.out).look hiq
          by_cases hzn : z = nm
          · subst hzn
            obtain ⟨g, off, x, X1, x2, x3, X4, x5, x6, rfl, hx, k0, k1, k2, k3, k4, hvx⟩ := (HL.out.below hB.out).look him
            obtain rfl : some x = GT := by rw [← hG.out, gt_succ, hz, if_pos rfl, hx]
            have CT := Lib.hid (rcopy_any x _ wr hvx)
            clear hvx hx hz
            obtain ⟨xk, hxk⟩ : ∃ v, x.kind = v := ⟨_, rfl⟩
            obtain ⟨xb, hxb⟩ : ∃ v, x.isB = v := ⟨_, rfl⟩
            obtain ⟨xt, hxt⟩ : ∃ v, x.text = v := ⟨_, rfl⟩
            rw [hxk] at k0 CT
            rw [hxb] at k1 CT
            rw [hxt] at k2 CT
            have HXK := Lib.hid hxk
            have HXB := Lib.hid hxb
            have HXT := Lib.hid hxt
            clear hxk hxb hxt
            go_wp2_with fail
            refine CT.out.mono ?_
            rintro e w8 ⟨A8, m8, c8, B8, q8, d8, rfl, hb8, ho8⟩
            rw [HXK.out, HXB.out, HXT.out] at ho8 ⊢
            have HO8 := Lib.hid ho8
            have HB8 := Lib.hid hb8
            have RY := Lib.hid (RX.out.below hb8 RX.out.lt)
            clear ho8 hb8 k0 k1 k2 k3 k4 q3 q4 cz
            have f0 := RY.out.fz 0
            have d0 := RY.out.c0
            have f1 := RY.out.fz 1
            have d1 := RY.out.c1
            have f2 := RY.out.fz 2
            have d2 := RY.out.c2
            have f3 := RY.out.fz 3
            have d3 := RY.out.c3
            have f4 := RY.out.fz 4
            have d4 := RY.out.c4
            go_wp2_with fail
            have RZ := put5_bx (a := .int .i64 xk) (b := .bool xb) (s := .string xt) (x := .slice A8 m8 c8) (y := .slice B8 q8 d8) RY.out
            have hst := fun z hz => put5_heap (w := w8) (R := R) (a := .int .i64 xk) (b := .bool xb) (s := .string xt) (x := .slice A8 m8 c8) (y := .slice B8 q8 d8) z hz
            have hsz := put5_size (w := w8) (R := R) (a := .int .i64 xk) (b := .bool xb) (s := .string xt) (x := .slice A8 m8 c8) (y := .slice B8 q8 d8)
            have BZ := put5_below (a := .int .i64 xk) (b := .bool xb) (s := .string xt) (x := .slice A8 m8 c8) (y := .slice B8 q8 d8) (R := R) (hB.out.trans (HB8.out.mono hB.out.size)) (show w.heap.size ≤ R by have := HQ.out; omega)
            clear f0 f1 f2 f3 f4 d0 d1 d2 d3 d4
            rw [show ((((w8.setCell ⟨R, 0, none⟩ (.int .i64 xk)).setCell ⟨R, 1, none⟩ (.bool xb)).setCell ⟨R, 2, none⟩ (.string xt)).setCell ⟨R, 3, none⟩ (.slice A8 m8 c8)).setCell ⟨R, 4, none⟩ (.slice B8 q8 d8) = put5 w8 R (.int .i64 xk) (.bool xb) (.string xt) (.slice A8 m8 c8) (.slice B8 q8 d8) from rfl]
            generalize put5 w8 R (.int .i64 xk) (.bool xb) (.string xt) (.slice A8 m8 c8) (.slice B8 q8 d8) = w9 at *
            have e0 := RZ.c0
            have e1 := RZ.c1
            have e2 := RZ.c2
            have e3 := RZ.c3
            have e4 := RZ.c4
            have hRwr := RX.out.lt
            have hwwr := hB.out.size
            refine bodyPost_ret (v := .tuple #[.agg #[.int .i64 xk, .bool xb, .string xt, .slice A8 m8 c8, .slice B8 q8 d8], .bool true]) ?_ rfl ⟨BZ, A8, m8, c8, B8, q8, d8, by rw [HXK.out, HXB.out, HXT.out], ?_⟩
            · simp only [results]
              go_simp
            · rw [HXK.out, HXB.out, HXT.out]
              refine (HO8.out.kept x fun y hy => hst y (by omega)).mono fun y hy => ?_
              omega
          · have hzb := ba_ne hzn
            have HG1 : Hid (gt n l nm i = GT) := Lib.hid (by rw [← hG.out, gt_succ, hz, if_neg (fun e => hzn (by injection e))])
            go_wp2_with fail
            exact ⟨⟨i, by go_num, by omega, HG1, hB, hBQ, RX⟩, by simp [intOf]⟩
    · rename_i hmq
      have HG0 : Hid (gt n l nm q = GT) := Lib.hid (by rw [← HGT.out]; unfold getT; rw [if_pos (show (Tr.mk 5 b s l n).kind = 5 from rfl)]; show _ = gt n l nm (min n.length l.length); rw [hqn, hlen, show min q m = q by omega])
      have BW0 : Hid (Below w.heap.size w W2) := by rw [HQ.out]; exact BW
      go_loopw [6] (fun iv wr => ∃ i : Nat, iv = .int .i64 ((i : Int) - 1) ∧ i ≤ q ∧ Hid (gt n l nm i = GT) ∧ Hid (Below w.heap.size w wr) ∧ Hid (Bx wr Q (.int .i64 5) (.bool b) (.string s) (.slice A m c) (.slice B q d)) ∧ Hid (Bx wr R (.int .i64 0) (.bool false) (.string ⟨#[]⟩) (.slice none 0 0) (.slice none 0 0))) (fun iv _ => (intOf iv + 1).toNat)
      case atStart => exact ⟨q, rfl, Nat.le_refl _, HG0, BW0, Q2, R2⟩
      case round =>
        obtain ⟨i, rfl, hi, hG, hB, hBQ, RX⟩ := hrel
        have q3 := hBQ.out.c3
        have q4 := hBQ.out.c4
        cases i with
        | zero =>
          have f0 := RX.out.fz 0
          have d0 := RX.out.c0
          have f1 := RX.out.fz 1
          have d1 := RX.out.c1
          have f2 := RX.out.fz 2
          have d2 := RX.out.c2
          have f3 := RX.out.fz 3
          have d3 := RX.out.c3
          have f4 := RX.out.fz 4
          have d4 := RX.out.c4
          obtain rfl : none = GT := hG.out
          rw [show ((0 : Nat) : Int) - 1 = -1 by omega]
          go_wp2_with fail
          rw [show ((((wr.setCell ⟨R, 0, none⟩ (.int .i64 0)).setCell ⟨R, 1, none⟩ (.bool false)).setCell ⟨R, 2, none⟩ (.string ⟨#[]⟩)).setCell ⟨R, 3, none⟩ (.slice none 0 0)).setCell ⟨R, 4, none⟩ (.slice none 0 0) = put5 wr R (.int .i64 0) (.bool false) (.string ⟨#[]⟩) (.slice none 0 0) (.slice none 0 0) from rfl]
          have RY := put5_bx (a := .int .i64 0) (b := .bool false) (s := .string ⟨#[]⟩) (x := .slice none 0 0) (y := .slice none 0 0) RX.out
          have BY := put5_below (a := .int .i64 0) (b := .bool false) (s := .string ⟨#[]⟩) (x := .slice none 0 0) (y := .slice none 0 0) (R := R) hB.out (show w.heap.size ≤ R by have := HQ.out; omega)
          clear f0 f1 f2 f3 f4 d0 d1 d2 d3 d4
          generalize put5 wr R (.int .i64 0) (.bool false) (.string ⟨#[]⟩) (.slice none 0 0) (.slice none 0 0) = w8 at *
          have e0 := RY.c0
          have e1 := RY.c1
          have e2 := RY.c2
          have e3 := RY.c3
          have e4 := RY.c4
          refine bodyPost_ret (v := .tuple #[.agg #[.int .i64 0, .bool false, .string ⟨#[]⟩, .slice none 0 0, .slice none 0 0], .bool false]) ?_ rfl ⟨BY, rfl⟩
          simp only [results]
          go_simp
        | succ i =>
          have him : i < m := by omega
          have hiq : i < q := by omega
          have i1 : (i : Int) < (m : Int) := by omega
          have i2 : (i : Int) < (q : Int) := by omega
          rw [show ((i + 1 : Nat) : Int) - 1 = (i : Int) by omega]
          obtain ⟨h, ho, z, rfl, hz, cz⟩ := (HN.out.below hB.out).look hiq
          by_cases hzn : z = nm
          · subst hzn
            obtain ⟨g, off, x, X1, x2, x3, X4, x5, x6, rfl, hx, k0, k1, k2, k3, k4, hvx⟩ := (HL.out.below hB.out).look him
            obtain rfl : some x = GT := by rw [← hG.out, gt_succ, hz, if_pos rfl, hx]
            have CT := Lib.hid (rcopy_any x _ wr hvx)
            clear hvx hx hz
            obtain ⟨xk, hxk⟩ : ∃ v, x.kind = v := ⟨_, rfl⟩
            obtain ⟨xb, hxb⟩ : ∃ v, x.isB = v := ⟨_, rfl⟩
            obtain ⟨xt, hxt⟩ : ∃ v, x.text = v := ⟨_, rfl⟩
            rw [hxk] at k0 CT
            rw [hxb] at k1 CT
            rw [hxt] at k2 CT
            have HXK := Lib.hid hxk
            have HXB := Lib.hid hxb
            have HXT := Lib.hid hxt
            clear hxk hxb hxt
            go_wp2_with fail
            refine CT.out.mono ?_
            rintro e w8 ⟨A8, m8, c8, B8, q8, d8, rfl, hb8, ho8⟩
            rw [HXK.out, HXB.out, HXT.out] at ho8 ⊢
            have HO8 := Lib.hid ho8
            have HB8 := Lib.hid hb8
            have RY := Lib.hid (RX.out.below hb8 RX.out.lt)
            clear ho8 hb8 k0 k1 k2 k3 k4 q3 q4 cz
            have f0 := RY.out.fz 0
            have d0 := RY.out.c0
            have f1 := RY.out.fz 1
            have d1 := RY.out.c1
            have f2 := RY.out.fz 2
            have d2 := RY.out.c2
            have f3 := RY.out.fz 3
            have d3 := RY.out.c3
            have f4 := RY.out.fz 4
            have d4 := RY.out.c4
            go_wp2_with fail
            have RZ := put5_bx (a := .int .i64 xk) (b := .bool xb) (s := .string xt) (x := .slice A8 m8 c8) (y := .slice B8 q8 d8) RY.out
            have hst := fun z hz => put5_heap (w := w8) (R := R) (a := .int .i64 xk) (b := .bool xb) (s := .string xt) (x := .slice A8 m8 c8) (y := .slice B8 q8 d8) z hz
            have hsz := put5_size (w := w8) (R := R) (a := .int .i64 xk) (b := .bool xb) (s := .string xt) (x := .slice A8 m8 c8) (y := .slice B8 q8 d8)
            have BZ := put5_below (a := .int .i64 xk) (b := .bool xb) (s := .string xt) (x := .slice A8 m8 c8) (y := .slice B8 q8 d8) (R := R) (hB.out.trans (HB8.out.mono hB.out.size)) (show w.heap.size ≤ R by have := HQ.out; omega)
            clear f0 f1 f2 f3 f4 d0 d1 d2 d3 d4
            rw [show ((((w8.setCell ⟨R, 0, none⟩ (.int .i64 xk)).setCell ⟨R, 1, none⟩ (.bool xb)).setCell ⟨R, 2, none⟩ (.string xt)).setCell ⟨R, 3, none⟩ (.slice A8 m8 c8)).setCell ⟨R, 4, none⟩ (.slice B8 q8 d8) = put5 w8 R (.int .i64 xk) (.bool xb) (.string xt) (.slice A8 m8 c8) (.slice B8 q8 d8) from rfl]
            generalize put5 w8 R (.int .i64 xk) (.bool xb) (.string xt) (.slice A8 m8 c8) (.slice B8 q8 d8) = w9 at *
            have e0 := RZ.c0
            have e1 := RZ.c1
            have e2 := RZ.c2
            have e3 := RZ.c3
            have e4 := RZ.c4
            have hRwr := RX.out.lt
            have hwwr := hB.out.size
            refine bodyPost_ret (v := .tuple #[.agg #[.int .i64 xk, .bool xb, .string xt, .slice A8 m8 c8, .slice B8 q8 d8], .bool true]) ?_ rfl ⟨BZ, A8, m8, c8, B8, q8, d8, by rw [HXK.out, HXB.out, HXT.out], ?_⟩
            · simp only [results]
              go_simp
            · rw [HXK.out, HXB.out, HXT.out]
              refine (HO8.out.kept x fun y hy => hst y (by omega)).mono fun y hy => ?_
              omega
          · have hzb := ba_ne hzn
            have HG1 : Hid (gt n l nm i = GT) := Lib.hid (by rw [← hG.out, gt_succ, hz, if_neg (fun e => hzn (by injection e))])
            go_wp2_with fail
            exact ⟨⟨i, by go_num, by omega, HG1, hB, hBQ, RX⟩, by simp [intOf]⟩
  · have RX := R2
    have f0 := RX.out.fz 0
    have d0 := RX.out.c0
    have f1 := RX.out.fz 1
    have d1 := RX.out.c1
    have f2 := RX.out.fz 2
    have d2 := RX.out.c2
    have f3 := RX.out.fz 3
    have d3 := RX.out.c3
    have f4 := RX.out.fz 4
    have d4 := RX.out.c4
    obtain rfl : none = GT := by
      rw [← HGT.out]
      unfold getT
      exact (if_neg hk5).symm
    go_wp2_with fail
    rw [show ((((W2.setCell ⟨R, 0, none⟩ (.int .i64 0)).setCell ⟨R, 1, none⟩ (.bool false)).setCell ⟨R, 2, none⟩ (.string ⟨#[]⟩)).setCell ⟨R, 3, none⟩ (.slice none 0 0)).setCell ⟨R, 4, none⟩ (.slice none 0 0) = put5 W2 R (.int .i64 0) (.bool false) (.string ⟨#[]⟩) (.slice none 0 0) (.slice none 0 0) from rfl]
    have RY := put5_bx (a := .int .i64 0) (b := .bool false) (s := .string ⟨#[]⟩) (x := .slice none 0 0) (y := .slice none 0 0) RX.out
    have BY := put5_below (a := .int .i64 0) (b := .bool false) (s := .string ⟨#[]⟩) (x := .slice none 0 0) (y := .slice none 0 0) (R := R) (by have := BW.out; rwa [← HQ.out] at this) (show w.heap.size ≤ R by have := HQ.out; omega)
    clear f0 f1 f2 f3 f4 d0 d1 d2 d3 d4
    generalize put5 W2 R (.int .i64 0) (.bool false) (.string ⟨#[]⟩) (.slice none 0 0) (.slice none 0 0) = w8 at *
    have e0 := RY.c0
    have e1 := RY.c1
    have e2 := RY.c2
    have e3 := RY.c3
    have e4 := RY.c4
    refine bodyPost_ret (v := .tuple #[.agg #[.int .i64 0, .bool false, .string ⟨#[]⟩, .slice none 0 0, .slice none 0 0], .bool false]) ?_ rfl ⟨BY, rfl⟩
    simp only [results]
    go_simp
end Vt
end Go.Proofs.YtlgeibaejeiemaaDoor
