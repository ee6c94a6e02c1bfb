/-
  What the program's Depth of layer 10 computes; a box that a round makes for itself.
-/
import Derived.Test.YtlgeibaejeiemaaDoorVm
namespace Go.Proofs.YtlgeibaejeiemaaDoor
set_option linter.unusedVariables false
set_option linter.unusedSimpArgs false
open Go.RowKit
namespace Vt
open Wd We

/-- a new block in which a value is put -/
theorem newbox {w W3 : World} {R : Nat} (hR : w.heap.size = R) (hW3 : w.alloc (.cells #[.int .i64 0, .bool false, .string ⟨#[]⟩, .slice none 0 0, .slice none 0 0] 25) = W3) :
    Bx W3 R (.int .i64 0) (.bool false) (.string ⟨#[]⟩) (.slice none 0 0) (.slice none 0 0) ∧ ∀ a b s x y, Bx (put5 W3 R a b s x y) R a b s x y ∧ Below w.heap.size w (put5 W3 R a b s x y) ∧ (put5 W3 R a b s x y).heap.size = R + 1 := by
  have h1 : Bx W3 R (.int .i64 0) (.bool false) (.string ⟨#[]⟩) (.slice none 0 0) (.slice none 0 0) := by rw [← hW3, ← hR]; exact heap_alloc_new w _
  refine ⟨h1, fun a b s x y => ⟨put5_bx h1, put5_below ?_ (by omega), ?_⟩⟩
  · rw [← hW3]; exact below_allocV w _
  · rw [put5_size, ← hW3, World.size_alloc, hR]
set_option maxRecDepth 100000 in
set_option maxHeartbeats 4000000 in
theorem depth_any : ∀ (t : Tr) (v : Value) (w : World), Vl w v t → dep t ≤ 1000000 →
    Calls Tryd.prog 18 #[v] w fun e w' => e = .returned (.int .i64 (dep t)) ∧ Below w.heap.size w w' := by
  refine Tr.ind ?_
  intro k b s l n ih v w hv hd
  obtain ⟨A, m, c, B, q, d, rfl, hl, hn, hk, hs⟩ := hv.open_
  rw [dep_mk] at hd ⊢
  have IH := Lib.hid (fun (x : Tr) (hx : x ∈ l) (vx : Value) (wx : World) (hvx : Vl wx vx x) => ih x hx vx wx hvx (by have := depL_le.1 (Nat.le_refl (depL l)) x hx; omega))
  have HL : Hid (VL w A m c l) := Lib.hid hl
  have hlen : l.length = m := hl.len
  have hmx : m ≤ 9223372036854775807 := by have := hl.le; have := hl.max; unfold maxLen at *; omega
  have P0 := Lib.hid (show Bx (w.alloc (.cells #[.int .i64 k, .bool b, .string s, .slice A m c, .slice B q d] 25)) w.heap.size (.int .i64 k) (.bool b) (.string s) (.slice A m c) (.slice B q d) from heap_alloc_new w _)
  have B0 := Lib.hid (below_allocV w (.cells #[.int .i64 k, .bool b, .string s, .slice A m c, .slice B q d] 25))
  have hle : ∀ i, depL (l.take i) ≤ 1000000 := fun i => by have := depL_take_le l i; omega
  have HLE := Lib.hid hle
  show Calls _ _ #[.agg #[.int .i64 k, .bool b, .string s, .slice A m c, .slice B q d]] w _
  clear ih hv hl hn hle
  obtain ⟨Q, hQ⟩ : ∃ Q, w.heap.size = Q := ⟨_, rfl⟩
  obtain ⟨W0, hW0⟩ : ∃ W0, w.alloc (.cells #[.int .i64 k, .bool b, .string s, .slice A m c, .slice B q d] 25) = W0 := ⟨_, rfl⟩
  rw [hW0] at P0 B0
  have hQ' := Lib.hid hQ
  rw [hQ] at P0
  have c3 := P0.out.c3
  go_enter Tryd.func18, Tryd.ntmps18
  go_wp2_with fail
  have HLT := Lib.hid P0.out.lt
  clear hQ hW0 c3
  go_loopw [3, 9] (fun mv iv wr => ∃ i : Nat, mv = .int .i64 (depL (l.take i) : Nat) ∧ iv = .int .i64 i ∧ i ≤ m ∧ Hid (Below W0.heap.size W0 wr)) (fun _ iv _ => m - (intOf iv).toNat)
  case atStart => exact ⟨0, by rw [List.take_zero, depL_nil]; rfl, rfl, by omega, Lib.hid (Below.refl _ _)⟩
  case round =>
    obtain ⟨i, rfl, rfl, hi, hB⟩ := hrel
    have hmost := HLE.out i
    by_cases him : i < m
    · have i1 : (i : Int) < (m : Int) := by omega
      have hBW := ext_of B0.out hB.out
      obtain ⟨g, off, t, A', m', c', B', q', d', hA, ht, k0, k1, k2, k3, k4, hvt⟩ := (HL.out.below hBW).look him
      subst hA
      have HT := Lib.hid (depL_take ht)
      have hmost2 := HLE.out (i + 1)
      rw [depL_take ht] at hmost2
      obtain ⟨X, hX⟩ : ∃ X, depL (l.take i) = X := ⟨_, rfl⟩
      obtain ⟨Y, hY⟩ : ∃ Y, dep t = Y := ⟨_, rfl⟩
      obtain ⟨R, hR⟩ : ∃ R, wr.heap.size = R := ⟨_, rfl⟩
      obtain ⟨W3, hW3⟩ : ∃ W3, wr.alloc (.cells #[.int .i64 0, .bool false, .string ⟨#[]⟩, .slice none 0 0, .slice none 0 0] 25) = W3 := ⟨_, rfl⟩
      obtain ⟨nb, nb2⟩ := newbox hR hW3
      obtain ⟨nb3, nb4, nb5⟩ := nb2 (.int .i64 t.kind) (.bool t.isB) (.string t.text) (.slice A' m' c') (.slice B' q' d')
      have CT := Lib.hid (IH.out t (List.mem_of_getElem? ht) _ _ (Vl.up nb4 t hvt))
      have e0 := nb.c0; have e1 := nb.c1; have e2 := nb.c2; have e3 := nb.c3; have e4 := nb.c4
      have f0 := nb.fz 0; have f1 := nb.fz 1; have f2 := nb.fz 2; have f3 := nb.fz 3; have f4 := nb.fz 4
      rw [hX] at HT hmost hmost2 ⊢
      rw [hY] at HT CT hmost2
      clear ht hvt hX hY hBW nb nb2
      obtain ⟨W4, hW4⟩ : ∃ W4, put5 W3 R (.int .i64 t.kind) (.bool t.isB) (.string t.text) (.slice A' m' c') (.slice B' q' d') = W4 := ⟨_, rfl⟩
      rw [hW4] at nb3 nb4 nb5 CT
      have hW4' := Lib.hid hW4
      have N4 := Lib.hid nb3
      have B4 := Lib.hid nb4
      clear hW4 nb3 nb4 nb5
      go_upto_region 5 with fail
      rw [show ((((W3.setCell ⟨R, 0, none⟩ (.int .i64 t.kind)).setCell ⟨R, 1, none⟩ (.bool t.isB)).setCell ⟨R, 2, none⟩ (.string t.text)).setCell ⟨R, 3, none⟩ (.slice A' m' c')).setCell ⟨R, 4, none⟩ (.slice B' q' d') = W4 from hW4'.out]
      clear e0 e1 e2 e3 e4 f0 f1 f2 f3 f4 hW3
      have e0 := N4.out.c0; have e1 := N4.out.c1; have e2 := N4.out.c2; have e3 := N4.out.c3; have e4 := N4.out.c4
      go_wp2_with fail
      refine CT.out.mono ?_
      rintro e w1 ⟨rfl, hb1⟩
      have B1 := Lib.hid (extV hB.out (extV B4.out hb1))
      clear hb1 e0 e1 e2 e3 e4
      go_wp2_with fail
      refine ⟨⟨i + 1, ?_, by go_num, by omega, B1⟩, by simp [intOf]; omega⟩
      rw [HT.out]
      by_cases hXY : X < Y
      · rw [if_pos hXY, show max X Y = Y by omega]
      · rw [if_neg hXY, show max X Y = X by omega]
    · obtain rfl : i = m := by omega
      have htk : l.take i = l := List.take_of_length_le (by omega)
      rw [htk] at hmost ⊢
      go_wp2
      go_ret
      exact ⟨rfl, ext_of B0.out hB.out⟩
end Vt
end Go.Proofs.YtlgeibaejeiemaaDoor
