/-
  What the document's Copy of layer 10 computes.
-/
import Derived.Test.YtlgeibaejeiemaaDoorVh
import Derived.Test.YtlgeibaejeiemaaDoorVe
import Derived.Laws.AppendOwnNone
import Derived.RangeFuncBox
namespace Go.Proofs.YtlgeibaejeiemaaDoor
set_option linter.unusedVariables false
set_option linter.unusedSimpArgs false
open Go.RowKit
namespace Vt
open Wd We

theorem v_info : (Tryd.prog.info? 25).map (fun i => (i.zero, i.size, i.bytes)) = some (some (.agg #[.int .i64 0, .bool false, .string ⟨#[]⟩, .slice none 0 0, .slice none 0 0]), 5, 80) := by kernel_rfl
theorem s_info : (Tryd.prog.info? 9).map (fun i => (i.zero, i.size, i.bytes)) = some (some (.string ⟨#[]⟩), 1, 16) := by kernel_rfl
/-- texts appended to none -/
theorem wp_appN {P : Program} {w : World} {ops : Array Oper} {rest : List Oper} {o : Oper} {a : Act} {Q : Exit → Act → World → Prop} (hgd : o.guard = none) (s x : Operand) (t : TypeId)
    (ho : o.op = .call { callee := .builtin .append, args := #[s, x], argTypes := #[t, t] }) (B : Nat) {e : TypeId} {i : TypeInfo} {z : Value} (ht : P.underlying t = some (.slice e)) (hi : P.info? e = some i) (hz : i.zero = some z) (hs1 : i.size = 1) (hby : i.bytes = 16) (hzc : z.cells.size = 1)
    (hs : a.eval s = .slice none 0 0) {A : Option Addr} {m c : Nat} {n : List ByteArray} (hx : a.eval x = .slice A m c) (hr : Nm w A m c n) (hB : B ≤ w.heap.size)
    (h : ∀ v' w', w'.ownsRow B e 1 v' m (n.map Value.string) → w.grownBy w' none → (v'.ownBlock = none ∨ v'.ownBlock = some w.heap.size) → wpList P ops Q rest (a.put o.dst v') w') : wpList P ops Q (o :: rest) a w := by
  have hl := hr.len
  rcases A with _ | ad
  · have hc := hr.nil rfl
    subst hc
    obtain rfl : m = 0 := by have := hr.le; omega
    obtain rfl : n = [] := List.eq_nil_of_length_eq_zero hl
    exact wpList_append_own_none hgd s x t ho B e i 1 ht hi _ 0 [] hs (World.ownsRow_nil _ _ _ _) hx (h _ w (World.ownsRow_nil _ _ _ _) ⟨rfl, rfl, rfl, Nat.le_refl _, fun _ _ _ => rfl⟩ (.inl rfl))
  · refine wpList_append_own_at (P := P) w hgd s x t ho B e i z 1 16 ht hi hz hs1 hby hzc (by omega) _ 0 [] hs (World.ownsRow_nil _ _ _ _) ad m c (n.map Value.string) hx (by simp [hl]) ?_ ?_ ?_ ?_ hB ?_
    · intro j u hu
      rw [List.getElem?_map] at hu
      obtain ⟨y, hj, rfl⟩ := Option.map_eq_some_iff.1 hu
      have hm : m ≠ 0 := by have := (List.getElem?_eq_some_iff.1 hj).1; omega
      obtain ⟨g, off, e', hcell⟩ := hr.row hm
      injection e' with e'
      subst e'
      have := hcell j y hj
      by_cases h0 : j = 0
      · subst h0; simpa [Addr.add] using this
      · simpa [Addr.add, h0] using this
    · intro u hu
      obtain ⟨y, _, rfl⟩ := List.mem_map.1 hu
      rfl
    · have := hr.le; have := hr.max; omega
    · have := hr.small; omega
    · intro v' w' ho' hg _ hat
      rw [Nat.zero_add, List.nil_append] at ho'
      exact h v' w' ho' hg hat
/-- texts of the call's own -/
theorem nm_own {w : World} {B : Nat} {e : TypeId} {v : Value} {m : Nat} {n : List ByteArray} (h : w.ownsRow B e 1 v m (n.map Value.string)) (hl : n.length = m) (hz : m * 16 ≤ 140737488351232) :
    ∃ A c, v = .slice A m c ∧ Nm w A m c n ∧ (m ≠ 0 → ∃ g ch, A = some ⟨g, 0, none⟩ ∧ w.heap[g]? = some (.cells ch e (0, 0))) := by
  rcases h.2 with ⟨rfl, rfl⟩ | ⟨g, cap, cu, rfl, hPg, hgc, hnc, hcm, hcs, htk⟩
  · obtain rfl : n = [] := List.eq_nil_of_length_eq_zero hl
    exact ⟨none, 0, rfl, Nm.none_ w, fun g => absurd rfl g⟩
  · refine ⟨some ⟨g, 0, none⟩, cap, rfl, ⟨hl, hnc, hcm, (fun e => by cases e), hz, fun hm => ⟨g, 0, rfl, fun i s hs => ?_⟩⟩, fun _ => ⟨g, cu, rfl, hgc⟩⟩
    have hi := (List.getElem?_eq_some_iff.1 hs).1
    have h1 : (n.map Value.string)[i]? = some (.string s) := by rw [List.getElem?_map, hs]; rfl
    rw [← htk, List.getElem?_take, if_pos (by omega)] at h1
    simp only [World.cell?, hgc]
    rw [Nat.zero_add]
    simpa using h1
/-- what Copy answers -/
def CpP (t : Tr) (w : World) (e : Ending) (w' : World) : Prop := ∃ A m c B q d, e = .returned (.agg #[.int .i64 t.kind, .bool t.isB, .string t.text, .slice A m c, .slice B q d]) ∧ Below w.heap.size w w' ∧
  OV 25 9 w' (fun x => w.heap.size ≤ x ∧ x < w'.heap.size) (.agg #[.int .i64 t.kind, .bool t.isB, .string t.text, .slice A m c, .slice B q d]) t
theorem cells5_new (w : World) (u0 u1 u2 u3 u4 : Value) (t : TypeId) : ∀ (j : Nat) (u : Value), [u0, u1, u2, u3, u4][j]? = some u → (w.alloc (.cells #[u0, u1, u2, u3, u4] t)).cell? ((⟨w.heap.size, 0, none⟩ : Addr).add j) = some u := by
  intro j u hu
  have hh := heap_alloc_new w (.cells #[u0, u1, u2, u3, u4] t)
  rw [add_none, Nat.zero_add]
  simp only [World.cell?, hh]
  simpa using hu

section
variable {w w' : World} {P : Nat} {a b s x y : Value}
theorem cell_heap {p : Addr} (e : w'.heap[p.block]? = w.heap[p.block]?) : w'.cell? p = w.cell? p := by simp only [World.cell?, e]
theorem Bx.fz (h : Bx w P a b s x y) (j : Nat) : w.frozen? ⟨P, j, none⟩ = false := by simp [World.frozen?, show w.heap[P]? = _ from h]
theorem Bx.same (h : Bx w P a b s x y) (e : w'.heap[P]? = w.heap[P]?) : Bx w' P a b s x y := by unfold Bx at h ⊢; rw [e, h]
theorem Bx.set3 (h : Bx w P a b s x y) (u : Value) : Bx (w.setCell ⟨P, 3, none⟩ u) P a b s u y := by
  have hp := h.lt
  unfold Bx at h ⊢
  simp only [World.setCell, Array.getElem?_modify, h]
  simp
theorem Bx.set0 (h : Bx w P a b s x y) (u : Value) : Bx (w.setCell ⟨P, 0, none⟩ u) P u b s x y := by
  unfold Bx at h ⊢
  simp only [World.setCell, Array.getElem?_modify, h]
  simp
theorem Bx.set1 (h : Bx w P a b s x y) (u : Value) : Bx (w.setCell ⟨P, 1, none⟩ u) P a u s x y := by
  unfold Bx at h ⊢
  simp only [World.setCell, Array.getElem?_modify, h]
  simp
theorem Bx.set2 (h : Bx w P a b s x y) (u : Value) : Bx (w.setCell ⟨P, 2, none⟩ u) P a b u x y := by
  unfold Bx at h ⊢
  simp only [World.setCell, Array.getElem?_modify, h]
  simp
theorem Bx.set4 (h : Bx w P a b s x y) (u : Value) : Bx (w.setCell ⟨P, 4, none⟩ u) P a b s x u := by
  have hp := h.lt
  unfold Bx at h ⊢
  simp only [World.setCell, Array.getElem?_modify, h]
  simp
end

set_option maxRecDepth 100000 in
set_option maxHeartbeats 16000000 in
theorem rcopy_any : ∀ (t : Tr) (v : Value) (w : World), Vl w v t → Calls Tryd.prog 15 #[v] w (CpP t w) := by
  refine Tr.ind ?_
  intro k b s l n ih v w hv
  obtain ⟨i0, hif, hz0, hz1, hz2⟩ := info_parts v_info
  obtain ⟨i1, si, sz0, sz1, sz2⟩ := info_parts s_info
  obtain ⟨A, m, c, B, q, d, rfl, hl, hn, hk, hs⟩ := hv.open_
  show Calls _ _ #[.agg #[.int .i64 k, .bool b, .string s, .slice A m c, .slice B q d]] w _
  have IH := Lib.hid (fun (x : Tr) (hx : x ∈ l) (vx : Value) (wx : World) (hvx : Vl wx vx x) => ih x hx vx wx hvx)
  have HL : Hid (VL w A m c l) := Lib.hid hl
  have HN : Hid (Nm w B q d n) := Lib.hid hn
  have hlen : l.length = m := hl.len
  have hmx : m ≤ 1759218604390 := by have := hl.small; omega
  have hqx : q ≤ 9223372036854775807 := by have := hn.le; have := hn.max; unfold maxLen at *; omega
  obtain ⟨W1, hW1⟩ : ∃ W1, w.alloc (.cells #[.int .i64 k, .bool b, .string s, .slice A m c, .slice B q d] 25) = W1 := ⟨_, rfl⟩
  obtain ⟨W2, hW2⟩ : ∃ W2, W1.alloc (.cells #[.int .i64 0, .bool false, .string ⟨#[]⟩, .slice none 0 0, .slice none 0 0] 25) = W2 := ⟨_, rfl⟩
  obtain ⟨W3, hW3⟩ : ∃ W3, W2.alloc (.cells #[.int .i64 k, .bool b, .string s, .slice none 0 0, .slice none 0 0] 25) = W3 := ⟨_, rfl⟩
  obtain ⟨Q, hQ⟩ : ∃ Q, w.heap.size = Q := ⟨_, rfl⟩
  obtain ⟨R, hR⟩ : ∃ R, Q + 1 = R := ⟨_, rfl⟩
  obtain ⟨P, hP⟩ : ∃ P, R + 1 = P := ⟨_, rfl⟩
  have z1 : W1.heap.size = R := by rw [← hW1, World.size_alloc, hQ, hR]
  have z2 : W2.heap.size = P := by rw [← hW2, World.size_alloc, z1, hP]
  have z3 : W3.heap.size = P + 1 := by rw [← hW3, World.size_alloc, z2]
  have b1 : Below Q w W1 := by rw [← hW1, ← hQ]; exact below_allocV w _
  have b2 : Below R W1 W2 := by rw [← hW2, ← z1]; exact below_allocV W1 _
  have b3 : Below P W2 W3 := by rw [← hW3, ← z2]; exact below_allocV W2 _
  have q1 : Bx W1 Q (.int .i64 k) (.bool b) (.string s) (.slice A m c) (.slice B q d) := by rw [← hW1, ← hQ]; exact heap_alloc_new w _
  have r2 : Bx W2 R (.int .i64 0) (.bool false) (.string ⟨#[]⟩) (.slice none 0 0) (.slice none 0 0) := by rw [← hW2, ← z1]; exact heap_alloc_new W1 _
  have p3 : Bx W3 P (.int .i64 k) (.bool b) (.string s) (.slice none 0 0) (.slice none 0 0) := by rw [← hW3, ← z2]; exact heap_alloc_new W2 _
  have q2 := q1.below b2 (by omega)
  have q3 := q2.below b3 (by omega)
  have r3 := r2.below b3 (by omega)
  have BW := Lib.hid ((b1.trans (b2.mono (by omega))).trans (b3.mono (by omega)))
  have Q3 := Lib.hid q3
  have R3 := Lib.hid r3
  have P3 := Lib.hid p3
  have HW1 := Lib.hid hW1
  have HW2 := Lib.hid hW2
  have HW3 := Lib.hid hW3
  have HQ := Lib.hid hQ
  have HR := Lib.hid hR
  have HP := Lib.hid hP
  have Z3 := Lib.hid z3
  have Z2 := Lib.hid z2
  have HK := Lib.hid hk
  have HSS0 := Lib.hid hs
  have hQR : Q < R := by omega
  have hRP : R < P := by omega
  have a0 := (q1.below b2 (by omega)).c0
  have a1 := (q1.below b2 (by omega)).c1
  have a2 := (q1.below b2 (by omega)).c2
  clear ih hv hl hn hk hs hW1 hW2 hW3 hQ hR hP z1 z2 z3 b1 b2 b3 q1 r2 p3 q2 q3 r3
  go_enter Tryd.func15, Tryd.ntmps15
  go_upto_region 1 with fail
  rw [HW1.out, HW2.out, HQ.out, HR.out]
  go_wp2_with fail
  have a0' := P3.out.c0
  rw [Z2.out, HW3.out]
  go_wp2_with fail
  go_loopw [4] (fun iv wr => ∃ (i : Nat) (X : Value) (xs : List Value) (U : Nat → Value) (lo hi : Nat → Nat), iv = .int .i64 i ∧ i ≤ m ∧ Hid (CI 25 9 wr P X i l xs U lo hi) ∧ Hid (Bx wr P (.int .i64 k) (.bool b) (.string s) X (.slice none 0 0)) ∧ Hid (Bx wr Q (.int .i64 k) (.bool b) (.string s) (.slice A m c) (.slice B q d)) ∧ Hid (Bx wr R (.int .i64 0) (.bool false) (.string ⟨#[]⟩) (.slice none 0 0) (.slice none 0 0)) ∧ Hid (Below w.heap.size w wr)) (fun iv _ => m - (intOf iv).toNat)
  case atStart => exact ⟨0, _, _, _, _, _, rfl, by omega, Lib.hid CI.nil, P3, Q3, R3, by rw [HQ.out]; exact BW⟩
  case round =>
    obtain ⟨i, X, xs, U, lo, hi, rfl, hi', HC, HBP, HBQ, HBR, HBW⟩ := hrel
    have q3 := HBQ.out.c3
    have p3 := HBP.out.c3
    by_cases him : i < m
    · have i1 : (i : Int) < (m : Int) := by omega
      obtain ⟨g, off, x, X1, x2, x3, X4, x5, x6, rfl, hx, k0, k1, k2, k3, k4, hvx⟩ := (HL.out.below HBW.out).look him
      have hgQ : g < Q := by
        obtain ⟨g1, off1, y, _, _, _, _, _, _, e1, _, j0, _, _, _, _, _⟩ := HL.out.look him
        injection e1 with e1
        injection e1 with e1
        have := lt_of_cell j0
        rw [HQ.out] at this
        simp only at this
        omega
      have CT := IH.out x (List.mem_of_getElem? hx) _ wr.drew (Vl.up (show Below wr.heap.size wr wr.drew from ⟨rfl, rfl, rfl, Nat.le_refl _, fun _ _ => rfl⟩) x hvx)
      clear hvx
      obtain ⟨xk, hxk⟩ : ∃ v, x.kind = v := ⟨_, rfl⟩
      obtain ⟨xb, hxb⟩ : ∃ v, x.isB = v := ⟨_, rfl⟩
      obtain ⟨xt, hxt⟩ : ∃ v, x.text = v := ⟨_, rfl⟩
      rw [hxk] at k0 CT
      rw [hxb] at k1 CT
      rw [hxt] at k2 CT
      go_upto_region 5 with fail
      have HSS : wr.drew.cell? ⟨Q, 3, none⟩ = some (.slice (some ⟨g, off, none⟩) m c) ∧ wr.drew.cell? ⟨g, off + i * 5, none⟩ = some (.int .i64 xk) ∧ wr.drew.cell? ⟨g, off + i * 5 + 1, none⟩ = some (.bool xb) ∧ wr.drew.cell? ⟨g, off + i * 5 + 2, none⟩ = some (.string xt) ∧ wr.drew.cell? ⟨g, off + i * 5 + 3, none⟩ = some (.slice X1 x2 x3) ∧ wr.drew.cell? ⟨g, off + i * 5 + 4, none⟩ = some (.slice X4 x5 x6) ∧ wr.drew.cell? ⟨P, 3, none⟩ = some X := ⟨q3, k0, k1, k2, k3, k4, p3⟩
      refine region_calm (fun w' => w'.cell? ⟨Q, 3, none⟩ = some (.slice (some ⟨g, off, none⟩) m c) ∧ w'.cell? ⟨g, off + i * 5, none⟩ = some (.int .i64 xk) ∧ w'.cell? ⟨g, off + i * 5 + 1, none⟩ = some (.bool xb) ∧ w'.cell? ⟨g, off + i * 5 + 2, none⟩ = some (.string xt) ∧ w'.cell? ⟨g, off + i * 5 + 3, none⟩ = some (.slice X1 x2 x3) ∧ w'.cell? ⟨g, off + i * 5 + 4, none⟩ = some (.slice X4 x5 x6) ∧ w'.cell? ⟨P, 3, none⟩ = some X) [0, 1, 2, 3, 4, 5, 6] (by kernel_rfl) ?_
      refine any_takeD 0 20 (.pointer (some ⟨P, 3, none⟩)) rfl rfl (by kernel_rfl) (by kernel_rfl) (by kernel_rfl) (by kernel_rfl) (fun _ _ _ h => h) (by rfl) ?_ HSS ?_
      · rintro w' ⟨q1, q2, q3, q4, q5, q6, q7⟩; go_simp
      simp only [Act.put, List.setIfInBounds_toArray, List.set_cons_zero, List.set_cons_succ]
      refine any_takeD 1 21 X rfl rfl (by kernel_rfl) (by kernel_rfl) (by kernel_rfl) (by kernel_rfl) (fun _ _ _ h => h) (by rfl) ?_ HSS ?_
      · rintro w' ⟨q1, q2, q3, q4, q5, q6, q7⟩; go_simp
      simp only [Act.put, List.setIfInBounds_toArray, List.set_cons_zero, List.set_cons_succ]
      refine any_takeD 2 22 (.pointer (some ⟨Q, 3, none⟩)) rfl rfl (by kernel_rfl) (by kernel_rfl) (by kernel_rfl) (by kernel_rfl) (fun _ _ _ h => h) (by rfl) ?_ HSS ?_
      · rintro w' ⟨q1, q2, q3, q4, q5, q6, q7⟩; go_simp
      simp only [Act.put, List.setIfInBounds_toArray, List.set_cons_zero, List.set_cons_succ]
      refine any_takeD 3 23 (.slice (some ⟨g, off, none⟩) m c) rfl rfl (by kernel_rfl) (by kernel_rfl) (by kernel_rfl) (by kernel_rfl) (fun _ _ _ h => h) (by rfl) ?_ HSS ?_
      · rintro w' ⟨q1, q2, q3, q4, q5, q6, q7⟩; go_simp
      simp only [Act.put, List.setIfInBounds_toArray, List.set_cons_zero, List.set_cons_succ]
      refine any_takeD 4 24 (.int .i64 (i : Int)) rfl rfl (by kernel_rfl) (by kernel_rfl) (by kernel_rfl) (by kernel_rfl) (fun _ _ _ h => h) (by rfl) ?_ HSS ?_
      · rintro w' ⟨q1, q2, q3, q4, q5, q6, q7⟩; go_simp
      simp only [Act.put, List.setIfInBounds_toArray, List.set_cons_zero, List.set_cons_succ]
      refine any_takeD 5 25 (.pointer (some ⟨g, off + i * 5, none⟩)) rfl rfl (by kernel_rfl) (by kernel_rfl) (by kernel_rfl) (by kernel_rfl) (fun _ _ _ h => h) (by rfl) ?_ HSS ?_
      · rintro w' ⟨q1, q2, q3, q4, q5, q6, q7⟩; go_simp
      simp only [Act.put, List.setIfInBounds_toArray, List.set_cons_zero, List.set_cons_succ]
      refine any_takeD 6 26 (.agg #[.int .i64 xk, .bool xb, .string xt, .slice X1 x2 x3, .slice X4 x5 x6]) rfl rfl (by kernel_rfl) (by kernel_rfl) (by kernel_rfl) (by kernel_rfl) (fun _ _ _ h => h) (by rfl) ?_ HSS ?_
      · rintro w' ⟨q1, q2, q3, q4, q5, q6, q7⟩; go_simp
      simp only [Act.put, List.setIfInBounds_toArray, List.set_cons_zero, List.set_cons_succ]
      refine any_callV 7 27 (by kernel_rfl) rfl rfl (by rfl) (fn := 15) (args := #[.agg #[.int .i64 xk, .bool xb, .string xt, .slice X1 x2 x3, .slice X4 x5 x6]]) ?_ CT ?_
      · go_simp
      rintro e w8 ⟨A8, m8, c8, B8, q8, d8, rfl, hb8, ho8⟩
      rw [hxk, hxb, hxt] at ho8 ⊢
      have hd0 : Below wr.heap.size wr wr.drew := ⟨rfl, rfl, rfl, Nat.le_refl _, fun _ _ => rfl⟩
      have hb9 : Below wr.heap.size wr w8 := hd0.trans hb8
      have HS8 : w8.cell? ⟨Q, 3, none⟩ = some (.slice (some ⟨g, off, none⟩) m c) ∧ w8.cell? ⟨g, off + i * 5, none⟩ = some (.int .i64 xk) ∧ w8.cell? ⟨g, off + i * 5 + 1, none⟩ = some (.bool xb) ∧ w8.cell? ⟨g, off + i * 5 + 2, none⟩ = some (.string xt) ∧ w8.cell? ⟨g, off + i * 5 + 3, none⟩ = some (.slice X1 x2 x3) ∧ w8.cell? ⟨g, off + i * 5 + 4, none⟩ = some (.slice X4 x5 x6) ∧ w8.cell? ⟨P, 3, none⟩ = some X := ⟨(hb9.cell (lt_of_cell q3)).trans q3, (hb9.cell (lt_of_cell k0)).trans k0, (hb9.cell (lt_of_cell k1)).trans k1, (hb9.cell (lt_of_cell k2)).trans k2, (hb9.cell (lt_of_cell k3)).trans k3, (hb9.cell (lt_of_cell k4)).trans k4, (hb9.cell (lt_of_cell p3)).trans p3⟩
      refine ⟨_, rfl, .inr HS8, ?_⟩
      simp only [Act.put, List.setIfInBounds_toArray, List.set_cons_zero, List.set_cons_succ]
      have hba : Below w8.heap.size w8 (w8.alloc (.cells #[.int .i64 xk, .bool xb, .string xt, .slice A8 m8 c8, .slice B8 q8 d8] 25)) := below_allocV w8 _
      have HS9 : (w8.alloc (.cells #[.int .i64 xk, .bool xb, .string xt, .slice A8 m8 c8, .slice B8 q8 d8] 25)).cell? ⟨Q, 3, none⟩ = some (.slice (some ⟨g, off, none⟩) m c) ∧ (w8.alloc (.cells #[.int .i64 xk, .bool xb, .string xt, .slice A8 m8 c8, .slice B8 q8 d8] 25)).cell? ⟨g, off + i * 5, none⟩ = some (.int .i64 xk) ∧ (w8.alloc (.cells #[.int .i64 xk, .bool xb, .string xt, .slice A8 m8 c8, .slice B8 q8 d8] 25)).cell? ⟨g, off + i * 5 + 1, none⟩ = some (.bool xb) ∧ (w8.alloc (.cells #[.int .i64 xk, .bool xb, .string xt, .slice A8 m8 c8, .slice B8 q8 d8] 25)).cell? ⟨g, off + i * 5 + 2, none⟩ = some (.string xt) ∧ (w8.alloc (.cells #[.int .i64 xk, .bool xb, .string xt, .slice A8 m8 c8, .slice B8 q8 d8] 25)).cell? ⟨g, off + i * 5 + 3, none⟩ = some (.slice X1 x2 x3) ∧ (w8.alloc (.cells #[.int .i64 xk, .bool xb, .string xt, .slice A8 m8 c8, .slice B8 q8 d8] 25)).cell? ⟨g, off + i * 5 + 4, none⟩ = some (.slice X4 x5 x6) ∧ (w8.alloc (.cells #[.int .i64 xk, .bool xb, .string xt, .slice A8 m8 c8, .slice B8 q8 d8] 25)).cell? ⟨P, 3, none⟩ = some X := ⟨(hba.cell (lt_of_cell HS8.1)).trans HS8.1, (hba.cell (lt_of_cell HS8.2.1)).trans HS8.2.1, (hba.cell (lt_of_cell HS8.2.2.1)).trans HS8.2.2.1, (hba.cell (lt_of_cell HS8.2.2.2.1)).trans HS8.2.2.2.1, (hba.cell (lt_of_cell HS8.2.2.2.2.1)).trans HS8.2.2.2.2.1, (hba.cell (lt_of_cell HS8.2.2.2.2.2.1)).trans HS8.2.2.2.2.2.1, (hba.cell (lt_of_cell HS8.2.2.2.2.2.2)).trans HS8.2.2.2.2.2.2⟩
      refine any_runD 8 28 (.slice (some ⟨w8.heap.size, 0, none⟩) 1 1) (w8.alloc (.cells #[.int .i64 xk, .bool xb, .string xt, .slice A8 m8 c8, .slice B8 q8 d8] 25)) (by kernel_rfl) rfl rfl (by rfl) ?_ (.inr HS9) ?_
      · go_simp
      simp only [Act.put, List.setIfInBounds_toArray, List.set_cons_zero, List.set_cons_succ]
      have C9 := HC.out.below (show Below wr.heap.size wr (w8.alloc (.cells #[.int .i64 xk, .bool xb, .string xt, .slice A8 m8 c8, .slice B8 q8 d8] 25)) from extV hb9 hba)
      have hcell := cells5_new w8 (.int .i64 xk) (.bool xb) (.string xt) (.slice A8 m8 c8) (.slice B8 q8 d8) 25
      have hPs : P + 1 ≤ wr.heap.size := HBP.out.lt
      have hwr8 := hb9.size
      have hsa : (w8.alloc (.cells #[.int .i64 xk, .bool xb, .string xt, .slice A8 m8 c8, .slice B8 q8 d8] 25)).heap.size = w8.heap.size + 1 := World.size_alloc _ _
      refine any_appA 9 29 (by kernel_rfl) rfl rfl (by rfl) (.tmp 21) (.tmp 28) 22 rfl (P + 1) 25 i0 _ 5 80 Tryd.underlying22 hif hz0 hz1 hz2 rfl (by decide) X i xs rfl C9.own ⟨w8.heap.size, 0, none⟩ 1 1 [.int .i64 xk, .bool xb, .string xt, .slice A8 m8 c8, .slice B8 q8 d8] rfl rfl hcell (by simp [Value.oneCell']) (by unfold maxLen; omega) (by omega) (by omega) ?_
      intro X' w5 hown' hgrow hat
      obtain ⟨g', cap', rfl⟩ := ownsRow_succ hown'
      have hXlt : ∀ z, X.ownBlock = some z → P + 1 ≤ z := fun z hz => (World.ownsRow.lt HC.out.own z hz).1
      have hkeep : ∀ z, z < wr.heap.size → z ≤ P → w5.heap[z]? = (w8.alloc (.cells #[.int .i64 xk, .bool xb, .string xt, .slice A8 m8 c8, .slice B8 q8 d8] 25)).heap[z]? := fun z h1 h2 => hgrow.block z (by omega) (fun e => by have := hXlt z e.symm; omega)
      have hS9s := HS9
      have HS5 : w5.cell? ⟨Q, 3, none⟩ = some (.slice (some ⟨g, off, none⟩) m c) ∧ w5.cell? ⟨g, off + i * 5, none⟩ = some (.int .i64 xk) ∧ w5.cell? ⟨g, off + i * 5 + 1, none⟩ = some (.bool xb) ∧ w5.cell? ⟨g, off + i * 5 + 2, none⟩ = some (.string xt) ∧ w5.cell? ⟨g, off + i * 5 + 3, none⟩ = some (.slice X1 x2 x3) ∧ w5.cell? ⟨g, off + i * 5 + 4, none⟩ = some (.slice X4 x5 x6) ∧ w5.cell? ⟨P, 3, none⟩ = some X := ⟨(cell_heap (hkeep Q (by omega) (by omega))).trans HS9.1, (cell_heap (hkeep g (by omega) (by omega))).trans HS9.2.1, (cell_heap (hkeep g (by omega) (by omega))).trans HS9.2.2.1, (cell_heap (hkeep g (by omega) (by omega))).trans HS9.2.2.2.1, (cell_heap (hkeep g (by omega) (by omega))).trans HS9.2.2.2.2.1, (cell_heap (hkeep g (by omega) (by omega))).trans HS9.2.2.2.2.2.1, (cell_heap (hkeep P (by omega) (by omega))).trans HS9.2.2.2.2.2.2⟩
      refine ⟨.inr HS5, ?_⟩
      simp only [Act.put, List.setIfInBounds_toArray, List.set_cons_zero, List.set_cons_succ]
      refine any_runD 10 30 (.pointer (some ⟨P, 3, none⟩)) w5 (by kernel_rfl) rfl rfl (by rfl) ?_ (.inr HS5) ?_
      · go_simp
      simp only [Act.put, List.setIfInBounds_toArray, List.set_cons_zero, List.set_cons_succ]
      have P8 := HBP.out.below hb9 HBP.out.lt
      have P9 := P8.below hba (by have := P8.lt; omega)
      have P5 := P9.same (hkeep P HBP.out.lt (Nat.le_refl _))
      have Q8 := HBQ.out.below hb9 HBQ.out.lt
      have Q9 := Q8.below hba (by have := Q8.lt; omega)
      have Q5 := Q9.same (hkeep Q HBQ.out.lt (by omega))
      have R8 := HBR.out.below hb9 HBR.out.lt
      have R9 := R8.below hba (by have := R8.lt; omega)
      have R5 := R9.same (hkeep R HBR.out.lt (by omega))
      have fz := P5.fz 3
      have cl := P5.c3
      refine any_run0 11 (w5.setCell ⟨P, 3, none⟩ (.slice (some ⟨g', 0, none⟩) (i + 1) cap')) (by kernel_rfl) rfl rfl (by rfl) ?_ (.inl (late_of (by kernel_rfl))) ?_
      · go_simp
      refine any_done (by kernel_rfl) ?_ _
      refine calm_normal ?_
      have HC6 := Lib.hid (CI.step HC.out hPs hb9 hx ho8 hown' hgrow hat HC.out.own.1 3 (.slice (some ⟨g', 0, none⟩) (i + 1) cap'))
      have P6 := Lib.hid (P5.set3 (.slice (some ⟨g', 0, none⟩) (i + 1) cap'))
      have Q6 := Lib.hid (Q5.same (Below.heap_setCell w5 ⟨P, 3, none⟩ (.slice (some ⟨g', 0, none⟩) (i + 1) cap') Q (show Q ≠ P by omega)))
      have R6 := Lib.hid (R5.same (Below.heap_setCell w5 ⟨P, 3, none⟩ (.slice (some ⟨g', 0, none⟩) (i + 1) cap') R (show R ≠ P by omega)))
      have hwr0 := HBW.out.size
      have B6 := Lib.hid (((HBW.out.trans ((extV hb9 hba).mono HBW.out.size)).grown hgrow (by omega) (fun k e => by have := hXlt k e; have := HQ.out; omega)).setCell (p := ⟨P, 3, none⟩) (show w.heap.size ≤ P by have := HQ.out; omega) (.slice (some ⟨g', 0, none⟩) (i + 1) cap'))
      clear fz cl P5 P8 P9 Q5 Q8 Q9 R5 R8 R9 HS5 HS9 hS9s HS8 HSS hown' hgrow hat hkeep hb9 hba hcell ho8 hb8 C9 hsa q3 p3 k0 k1 k2 k3 k4
      generalize w5.setCell ⟨P, 3, none⟩ (.slice (some ⟨g', 0, none⟩) (i + 1) cap') = w6 at *
      go_wp2_with fail
      exact ⟨⟨i + 1, _, _, _, _, _, by go_num, by omega, HC6, P6, Q6, R6, B6⟩, by simp [intOf]; omega⟩
    · obtain rfl : i = m := by omega
      have q4 := HBQ.out.c4
      have NMR := Lib.hid (HN.out.below HBW.out)
      have hq1 : q * 16 ≤ 140737488351232 := HN.out.small
      have HQ1 := Lib.hid hq1
      obtain ⟨XA, XC, rfl⟩ : ∃ XA XC, X = .slice XA i XC := by
        rcases HC.out.own.2 with ⟨rfl, rfl⟩ | ⟨g, cap, cu, rfl, _⟩
        · exact ⟨none, 0, rfl⟩
        · exact ⟨_, _, rfl⟩
      go_upto_region 8 with (at_builtin; refine wp_appN rfl _ _ _ rfl wr.heap.size Tryd.underlying23 si sz0 sz1 sz2 rfl rfl rfl NMR.out (Nat.le_refl _) ?_; intro Y w5 hown' hgrow hat; obtain ⟨YA, YC, rfl, hnm, hna⟩ := nm_own hown' HN.out.len HQ1.out; have NM5 := Lib.hid hnm; have NA5 := Lib.hid hna; have NB5 := Lib.hid (World.ownsRow.lt hown'); have hb5 : Below wr.heap.size wr w5 := ⟨hgrow.os, hgrow.tape, hgrow.output, hgrow.size, fun k hk => hgrow.block k hk (by simp)⟩; have P5 := HBP.out.below hb5 HBP.out.lt; have R5 := Lib.hid (HBR.out.below hb5 HBR.out.lt); have C5 := Lib.hid (HC.out.below hb5); have B5 := Lib.hid hb5; have fz := P5.fz 4; have cl := P5.c4; have P6 := Lib.hid P5; clear hown' hgrow hat hnm hna hb5 P5)
      have hwr0 := HBW.out.size
      have hPw := HBP.out.lt
      have hB5 := B5.out.size
      have hfin := CI.fin (k := k) (b := b) (s := s) (T := fun x => P + 1 ≤ x ∧ x < w5.heap.size) C5.out HK.out HSS0.out hlen (by omega) (fun x h1 h2 => ⟨h1, h2⟩) YA q YC rfl NM5.out (fun hq0 => by
        obtain ⟨g, ch, e1, e2⟩ := NA5.out hq0
        subst e1
        have hg := NB5.out g rfl
        refine ⟨g, ch, rfl, by omega, hg.2, e2, fun j hj => by have := (HC.out.inn j hj).2; omega, fun e => ?_⟩
        have := (World.ownsRow.lt HC.out.own g e).2
        omega)
      obtain ⟨A9, c9, _, hov⟩ := hfin
      have HOV := Lib.hid hov
      have P7 := P6.out.set4 (.slice YA q YC)
      have R7 := R5.out.same (Below.heap_setCell w5 ⟨P, 4, none⟩ (.slice YA q YC) R (show R ≠ P by omega))
      have HS7 : Hid (∀ x, x ≠ P → (w5.setCell ⟨P, 4, none⟩ (.slice YA q YC)).heap[x]? = w5.heap[x]?) := Lib.hid (fun x hx => Below.heap_setCell w5 ⟨P, 4, none⟩ (.slice YA q YC) x hx)
      have B7 := Lib.hid ((HBW.out.trans (B5.out.mono HBW.out.size)).setCell (p := ⟨P, 4, none⟩) (show w.heap.size ≤ P by have := HQ.out; omega) (.slice YA q YC))
      have z7 : (w5.setCell ⟨P, 4, none⟩ (.slice YA q YC)).heap.size = w5.heap.size := by simp [World.setCell]
      have a0 := P7.c0
      have a1 := P7.c1
      have a2 := P7.c2
      have a3 := P7.c3
      have a4 := P7.c4
      have f0 := R7.fz 0
      have f1 := R7.fz 1
      have f2 := R7.fz 2
      have f3 := R7.fz 3
      have f4 := R7.fz 4
      have d0 := R7.c0
      have d1 := R7.c1
      have d2 := R7.c2
      have d3 := R7.c3
      have d4 := R7.c4
      clear hov
      generalize w5.setCell ⟨P, 4, none⟩ (.slice YA q YC) = w7 at *
      have HR7 := Lib.hid R7
      go_wp2_with fail
      have R8 := ((((HR7.out.set0 (.int .i64 k)).set1 (.bool b)).set2 (.string s)).set3 (.slice XA i XC)).set4 (.slice YA q YC)
      have hst : ∀ x, x ≠ R → (((((w7.setCell ⟨R, 0, none⟩ (.int .i64 k)).setCell ⟨R, 1, none⟩ (.bool b)).setCell ⟨R, 2, none⟩ (.string s)).setCell ⟨R, 3, none⟩ (.slice XA i XC)).setCell ⟨R, 4, none⟩ (.slice YA q YC)).heap[x]? = w7.heap[x]? := fun x hx => by
        rw [Below.heap_setCell _ _ _ _ hx, Below.heap_setCell _ _ _ _ hx, Below.heap_setCell _ _ _ _ hx, Below.heap_setCell _ _ _ _ hx, Below.heap_setCell _ _ _ _ hx]
      have hw0 : w.heap.size ≤ R := by have := HQ.out; omega
      have B8 := ((((B7.out.setCell (p := ⟨R, 0, none⟩) hw0 (.int .i64 k)).setCell (p := ⟨R, 1, none⟩) hw0 (.bool b)).setCell (p := ⟨R, 2, none⟩) hw0 (.string s)).setCell (p := ⟨R, 3, none⟩) hw0 (.slice XA i XC)).setCell (p := ⟨R, 4, none⟩) hw0 (.slice YA q YC)
      have z8 : (((((w7.setCell ⟨R, 0, none⟩ (.int .i64 k)).setCell ⟨R, 1, none⟩ (.bool b)).setCell ⟨R, 2, none⟩ (.string s)).setCell ⟨R, 3, none⟩ (.slice XA i XC)).setCell ⟨R, 4, none⟩ (.slice YA q YC)).heap.size = w5.heap.size := by rw [← z7]; simp [World.setCell]
      clear a0 a1 a2 a3 a4 f0 f1 f2 f3 f4 d0 d1 d2 d3 d4
      generalize ((((w7.setCell ⟨R, 0, none⟩ (.int .i64 k)).setCell ⟨R, 1, none⟩ (.bool b)).setCell ⟨R, 2, none⟩ (.string s)).setCell ⟨R, 3, none⟩ (.slice XA i XC)).setCell ⟨R, 4, none⟩ (.slice YA q YC) = w8 at *
      have a0 := R8.c0
      have a1 := R8.c1
      have a2 := R8.c2
      have a3 := R8.c3
      have a4 := R8.c4
      refine bodyPost_ret (v := .agg #[.int .i64 k, .bool b, .string s, .slice XA i XC, .slice YA q YC]) ?_ rfl ⟨XA, i, XC, YA, q, YC, rfl, B8, ?_⟩
      · simp only [results]
        go_simp
      · refine (HOV.out.kept (.mk k b s l n) fun x hx => ?_).mono fun x hx => ?_
        · rw [hst x (by omega), HS7.out x (by omega)]
        · have := HQ.out
          omega
end Vt
end Go.Proofs.YtlgeibaejeiemaaDoor
