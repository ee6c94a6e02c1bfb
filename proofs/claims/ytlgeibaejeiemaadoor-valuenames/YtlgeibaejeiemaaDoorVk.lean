/-
  What the document's List and Make of layer 10 compute.
-/
import Derived.Test.YtlgeibaejeiemaaDoorVj
namespace Go.Proofs.YtlgeibaejeiemaaDoor
set_option linter.unusedVariables false
set_option linter.unusedSimpArgs false
open Go.RowKit
namespace Vt
open Wd We

set_option maxRecDepth 100000 in
set_option maxHeartbeats 4000000 in
theorem rlist_any (A : Option Addr) (m c : Nat) (l : List Tr) (w : World) (hl : VL w A m c l) : Calls Tryd.prog 26 #[.slice A m c] w (CpP (.mk 4 false ⟨#[]⟩ l []) w) := by
  have hv : ∀ w', Below w.heap.size w w' → Vl w' (.agg #[.int .i64 4, .bool false, .string ⟨#[]⟩, .slice A m c, .slice none 0 0]) (.mk 4 false ⟨#[]⟩ l []) := fun w' h =>
    Vl.shut (t := .mk 4 false ⟨#[]⟩ l []) (hl.below h) (Nm.none_ w') (show (-9223372036854775808 : Int) ≤ 4 ∧ (4 : Int) ≤ 9223372036854775807 by omega) (show 0 ≤ 140737488351232 by omega)
  obtain ⟨R, hR⟩ : ∃ R, w.heap.size = R := ⟨_, rfl⟩
  obtain ⟨W2, hW2⟩ : ∃ W2, w.alloc (.cells #[.int .i64 0, .bool false, .string ⟨#[]⟩, .slice none 0 0, .slice none 0 0] 25) = W2 := ⟨_, rfl⟩
  have b2 : Below w.heap.size w W2 := by rw [← hW2]; exact below_allocV w _
  have B2 := Lib.hid b2
  have R2 : Hid (Bx W2 R (.int .i64 0) (.bool false) (.string ⟨#[]⟩) (.slice none 0 0) (.slice none 0 0)) := Lib.hid (by rw [← hW2, ← hR]; exact heap_alloc_new w _)
  have HR := Lib.hid hR
  have HW2 := Lib.hid hW2
  have HV := Lib.hid (hv _ b2)
  clear hv b2 hl hW2 hR
  go_enter Tryd.func26, Tryd.ntmps26
  go_wp2_with fail
  rw [HR.out]
  rw [HW2.out]
  refine (rcopy_any _ _ _ HV.out).mono ?_
  rintro e w8 ⟨A8, m8, c8, B8, q8, d8, rfl, hb8, ho8⟩
  simp only [Tr.kind, Tr.isB, Tr.text] at ho8 ⊢
  have HO8 := Lib.hid ho8
  have HB8 := Lib.hid hb8
  have RY := Lib.hid (R2.out.below hb8 R2.out.lt)
  clear ho8 hb8
  have f0 := RY.out.fz 0
  have d0 := RY.out.c0
  have f1 := RY.out.fz 1
  have d1 := RY.out.c1
  have f2 := RY.out.fz 2
  have d2 := RY.out.c2
  have f3 := RY.out.fz 3
  have d3 := RY.out.c3
  have f4 := RY.out.fz 4
  have d4 := RY.out.c4
  go_wp2_with fail
  have RZ := put5_bx (a := .int .i64 4) (b := .bool false) (s := .string ⟨#[]⟩) (x := .slice A8 m8 c8) (y := .slice B8 q8 d8) RY.out
  have hst := fun z hz => put5_heap (w := w8) (R := R) (a := .int .i64 4) (b := .bool false) (s := .string ⟨#[]⟩) (x := .slice A8 m8 c8) (y := .slice B8 q8 d8) z hz
  have hsz := put5_size (w := w8) (R := R) (a := .int .i64 4) (b := .bool false) (s := .string ⟨#[]⟩) (x := .slice A8 m8 c8) (y := .slice B8 q8 d8)
  have BZ := put5_below (a := .int .i64 4) (b := .bool false) (s := .string ⟨#[]⟩) (x := .slice A8 m8 c8) (y := .slice B8 q8 d8) (R := R) (extV B2.out HB8.out) (show w.heap.size ≤ R by have := HR.out; omega)
  clear f0 f1 f2 f3 f4 d0 d1 d2 d3 d4
  rw [show ((((w8.setCell ⟨R, 0, none⟩ (.int .i64 4)).setCell ⟨R, 1, none⟩ (.bool false)).setCell ⟨R, 2, none⟩ (.string ⟨#[]⟩)).setCell ⟨R, 3, none⟩ (.slice A8 m8 c8)).setCell ⟨R, 4, none⟩ (.slice B8 q8 d8) = put5 w8 R (.int .i64 4) (.bool false) (.string ⟨#[]⟩) (.slice A8 m8 c8) (.slice B8 q8 d8) from rfl]
  generalize put5 w8 R (.int .i64 4) (.bool false) (.string ⟨#[]⟩) (.slice A8 m8 c8) (.slice B8 q8 d8) = w9 at *
  have e0 := RZ.c0
  have e1 := RZ.c1
  have e2 := RZ.c2
  have e3 := RZ.c3
  have e4 := RZ.c4
  have hRw := R2.out.lt
  have hww := B2.out.size
  refine bodyPost_ret (v := .agg #[.int .i64 4, .bool false, .string ⟨#[]⟩, .slice A8 m8 c8, .slice B8 q8 d8]) ?_ rfl ⟨A8, m8, c8, B8, q8, d8, rfl, BZ, ?_⟩
  · simp only [results]
    go_simp
  · refine (HO8.out.kept (.mk 4 false ⟨#[]⟩ l []) fun y hy => hst y (by omega)).mono fun y hy => ?_
    omega

/-- what Make answers -/
def MkP (l : List Tr) (n : List ByteArray) (w : World) (e : Ending) (w' : World) : Prop := Below w.heap.size w w' ∧ if n.length = l.length
  then ∃ A m c B q d, e = .returned (.tuple #[.agg #[.int .i64 5, .bool false, .string ⟨#[]⟩, .slice A m c, .slice B q d], .int .i64 0]) ∧
    OV 25 9 w' (fun x => w.heap.size ≤ x ∧ x < w'.heap.size) (.agg #[.int .i64 5, .bool false, .string ⟨#[]⟩, .slice A m c, .slice B q d]) (.mk 5 false ⟨#[]⟩ l n)
  else e = .returned (.tuple #[.agg #[.int .i64 0, .bool false, .string ⟨#[]⟩, .slice none 0 0, .slice none 0 0], .int .i64 2])
theorem mk_yes {l : List Tr} {n : List ByteArray} {w w' : World} (hb : Below w.heap.size w w') (he : n.length = l.length) {A : Option Addr} {m c : Nat} {B : Option Addr} {q d : Nat}
    (ho : OV 25 9 w' (fun x => w.heap.size ≤ x ∧ x < w'.heap.size) (.agg #[.int .i64 5, .bool false, .string ⟨#[]⟩, .slice A m c, .slice B q d]) (.mk 5 false ⟨#[]⟩ l n)) :
    MkP l n w (.returned (.tuple #[.agg #[.int .i64 5, .bool false, .string ⟨#[]⟩, .slice A m c, .slice B q d], .int .i64 0])) w' := ⟨hb, by rw [if_pos he]; exact ⟨A, m, c, B, q, d, rfl, ho⟩⟩
theorem mk_no {l : List Tr} {n : List ByteArray} {w w' : World} (hb : Below w.heap.size w w') (he : ¬ n.length = l.length) :
    MkP l n w (.returned (.tuple #[.agg #[.int .i64 0, .bool false, .string ⟨#[]⟩, .slice none 0 0, .slice none 0 0], .int .i64 2])) w' := ⟨hb, by rw [if_neg he]⟩

set_option maxRecDepth 100000 in
set_option maxHeartbeats 4000000 in
theorem rmake_any (A : Option Addr) (m c : Nat) (l : List Tr) (B : Option Addr) (q d : Nat) (n : List ByteArray) (w : World) (hl : VL w A m c l) (hn : Nm w B q d n) :
    Calls Tryd.prog 28 #[.slice B q d, .slice A m c] w (MkP l n w) := by
  have hv : ∀ w', Below w.heap.size w w' → Vl w' (.agg #[.int .i64 5, .bool false, .string ⟨#[]⟩, .slice A m c, .slice B q d]) (.mk 5 false ⟨#[]⟩ l n) := fun w' h =>
    Vl.shut (t := .mk 5 false ⟨#[]⟩ l n) (hl.below h) (hn.below h) (show (-9223372036854775808 : Int) ≤ 5 ∧ (5 : Int) ≤ 9223372036854775807 by omega) (show 0 ≤ 140737488351232 by omega)
  obtain ⟨R, hR⟩ : ∃ R, w.heap.size = R := ⟨_, rfl⟩
  obtain ⟨W2, hW2⟩ : ∃ W2, w.alloc (.cells #[.int .i64 0, .bool false, .string ⟨#[]⟩, .slice none 0 0, .slice none 0 0] 25) = W2 := ⟨_, rfl⟩
  have b2 : Below w.heap.size w W2 := by rw [← hW2]; exact below_allocV w _
  have B2 := Lib.hid b2
  have R2 : Hid (Bx W2 R (.int .i64 0) (.bool false) (.string ⟨#[]⟩) (.slice none 0 0) (.slice none 0 0)) := Lib.hid (by rw [← hW2, ← hR]; exact heap_alloc_new w _)
  have HR := Lib.hid hR
  have HW2 := Lib.hid hW2
  have HV := Lib.hid (hv _ b2)
  have hlen : l.length = m := hl.len
  have hqn : n.length = q := hn.len
  have hmx : m ≤ 1759218604390 := by have := hl.small; omega
  have hqx : q ≤ 8796093022208 := by have := hn.small; omega
  clear hv b2 hl hW2 hR hn
  go_enter Tryd.func28, Tryd.ntmps28
  by_cases hqm : q = m
  · subst hqm
    go_wp2_with fail
    rw [HR.out]
    rw [HW2.out]
    refine (rcopy_any _ _ _ HV.out).mono ?_
    rintro e w8 ⟨A8, m8, c8, B8, q8, d8, rfl, hb8, ho8⟩
    simp only [Tr.kind, Tr.isB, Tr.text] at ho8 ⊢
    have HO8 := Lib.hid ho8
    have HB8 := Lib.hid hb8
    have RY := Lib.hid (R2.out.below hb8 R2.out.lt)
    clear ho8 hb8
    have f0 := RY.out.fz 0
    have d0 := RY.out.c0
    have f1 := RY.out.fz 1
    have d1 := RY.out.c1
    have f2 := RY.out.fz 2
    have d2 := RY.out.c2
    have f3 := RY.out.fz 3
    have d3 := RY.out.c3
    have f4 := RY.out.fz 4
    have d4 := RY.out.c4
    go_wp2_with fail
    have RZ := put5_bx (a := .int .i64 5) (b := .bool false) (s := .string ⟨#[]⟩) (x := .slice A8 m8 c8) (y := .slice B8 q8 d8) RY.out
    have hst := fun z hz => put5_heap (w := w8) (R := R) (a := .int .i64 5) (b := .bool false) (s := .string ⟨#[]⟩) (x := .slice A8 m8 c8) (y := .slice B8 q8 d8) z hz
    have hsz := put5_size (w := w8) (R := R) (a := .int .i64 5) (b := .bool false) (s := .string ⟨#[]⟩) (x := .slice A8 m8 c8) (y := .slice B8 q8 d8)
    have BZ := put5_below (a := .int .i64 5) (b := .bool false) (s := .string ⟨#[]⟩) (x := .slice A8 m8 c8) (y := .slice B8 q8 d8) (R := R) (extV B2.out HB8.out) (show w.heap.size ≤ R by have := HR.out; omega)
    clear f0 f1 f2 f3 f4 d0 d1 d2 d3 d4
    rw [show ((((w8.setCell ⟨R, 0, none⟩ (.int .i64 5)).setCell ⟨R, 1, none⟩ (.bool false)).setCell ⟨R, 2, none⟩ (.string ⟨#[]⟩)).setCell ⟨R, 3, none⟩ (.slice A8 m8 c8)).setCell ⟨R, 4, none⟩ (.slice B8 q8 d8) = put5 w8 R (.int .i64 5) (.bool false) (.string ⟨#[]⟩) (.slice A8 m8 c8) (.slice B8 q8 d8) from rfl]
    generalize put5 w8 R (.int .i64 5) (.bool false) (.string ⟨#[]⟩) (.slice A8 m8 c8) (.slice B8 q8 d8) = w9 at *
    have e0 := RZ.c0
    have e1 := RZ.c1
    have e2 := RZ.c2
    have e3 := RZ.c3
    have e4 := RZ.c4
    have hRw := R2.out.lt
    have hww := B2.out.size
    refine bodyPost_ret (v := .tuple #[.agg #[.int .i64 5, .bool false, .string ⟨#[]⟩, .slice A8 m8 c8, .slice B8 q8 d8], .int .i64 0]) ?_ rfl (mk_yes BZ (by omega) ?_)
    · simp only [results]
      go_simp
    · refine (HO8.out.kept (.mk 5 false ⟨#[]⟩ l n) fun y hy => hst y (by omega)).mono fun y hy => ?_
      omega
  · have hqi : ¬ (q : Int) = (m : Int) := by omega
    go_upto_region 2 with fail
    rw [HR.out]
    rw [HW2.out]
    have RY := R2
    have f0 := RY.out.fz 0
    have d0 := RY.out.c0
    have f1 := RY.out.fz 1
    have d1 := RY.out.c1
    have f2 := RY.out.fz 2
    have d2 := RY.out.c2
    have f3 := RY.out.fz 3
    have d3 := RY.out.c3
    have f4 := RY.out.fz 4
    have d4 := RY.out.c4
    go_wp2_with fail
    rw [show ((((W2.setCell ⟨R, 0, none⟩ (.int .i64 0)).setCell ⟨R, 1, none⟩ (.bool false)).setCell ⟨R, 2, none⟩ (.string ⟨#[]⟩)).setCell ⟨R, 3, none⟩ (.slice none 0 0)).setCell ⟨R, 4, none⟩ (.slice none 0 0) = put5 W2 R (.int .i64 0) (.bool false) (.string ⟨#[]⟩) (.slice none 0 0) (.slice none 0 0) from rfl]
    have RZ := put5_bx (a := .int .i64 0) (b := .bool false) (s := .string ⟨#[]⟩) (x := .slice none 0 0) (y := .slice none 0 0) RY.out
    have BZ := put5_below (a := .int .i64 0) (b := .bool false) (s := .string ⟨#[]⟩) (x := .slice none 0 0) (y := .slice none 0 0) (R := R) B2.out (show w.heap.size ≤ R by have := HR.out; omega)
    clear f0 f1 f2 f3 f4 d0 d1 d2 d3 d4
    generalize put5 W2 R (.int .i64 0) (.bool false) (.string ⟨#[]⟩) (.slice none 0 0) (.slice none 0 0) = w9 at *
    have e0 := RZ.c0
    have e1 := RZ.c1
    have e2 := RZ.c2
    have e3 := RZ.c3
    have e4 := RZ.c4
    refine bodyPost_ret (v := .tuple #[.agg #[.int .i64 0, .bool false, .string ⟨#[]⟩, .slice none 0 0, .slice none 0 0], .int .i64 2]) ?_ rfl (mk_no BZ (by omega))
    simp only [results]
    go_simp

end Vt
end Go.Proofs.YtlgeibaejeiemaaDoor
