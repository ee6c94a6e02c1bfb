/-
  What the document's Depth, Deep and DeepList of layer 10 compute.
-/
import Derived.Test.YtlgeibaejeiemaaDoorVc
import Derived.Test.YtlgeibaejeiemaaDoorWe
namespace Go.Proofs.YtlgeibaejeiemaaDoor
set_option linter.unusedVariables false
set_option linter.unusedSimpArgs false
open Go.RowKit
namespace Vt
open Wd We

theorem below_allocV (w : World) (o : Obj) : Below w.heap.size w (w.alloc o) := (Below.refl _ _).alloc (Nat.le_refl _) o
theorem extV {a b c : World} (h : Below a.heap.size a b) (k : Below b.heap.size b c) : Below a.heap.size a c := h.trans (k.mono h.size)
theorem ext_of {a b c : World} (h : Below a.heap.size a b) (k : Below b.heap.size b c) : Below a.heap.size a c := extV h k
/-- a value in a block of its own -/
def Bx (w : World) (P : Nat) (a b s x y : Value) : Prop := w.heap[P]? = some (.cells #[a, b, s, x, y] 25 (0, 0))
section
variable {w : World} {P : Nat} {a b s x y : Value}
theorem Bx.c0 (h : Bx w P a b s x y) : w.cell? ⟨P, 0, none⟩ = some a := by unfold Bx at h; simp only [World.cell?, h]; rfl
theorem Bx.c1 (h : Bx w P a b s x y) : w.cell? ⟨P, 1, none⟩ = some b := by unfold Bx at h; simp only [World.cell?, h]; rfl
theorem Bx.c2 (h : Bx w P a b s x y) : w.cell? ⟨P, 2, none⟩ = some s := by unfold Bx at h; simp only [World.cell?, h]; rfl
theorem Bx.c3 (h : Bx w P a b s x y) : w.cell? ⟨P, 3, none⟩ = some x := by unfold Bx at h; simp only [World.cell?, h]; rfl
theorem Bx.c4 (h : Bx w P a b s x y) : w.cell? ⟨P, 4, none⟩ = some y := by unfold Bx at h; simp only [World.cell?, h]; rfl
theorem Bx.lt (h : Bx w P a b s x y) : P < w.heap.size := (Array.getElem?_eq_some_iff.1 h).1
theorem Bx.below (h : Bx w P a b s x y) {w' : World} {B : Nat} (hw : Below B w w') (hB : P < B) : Bx w' P a b s x y := by
  unfold Bx at h ⊢; rw [← h]; exact hw.block P hB
end
theorem depL_take {l : List Tr} {i : Nat} {t : Tr} (h : l[i]? = some t) : depL (l.take (i + 1)) = max (depL (l.take i)) (dep t) := by rw [List.take_add_one, h]; exact depL_snoc _ _
theorem depL_take_le (l : List Tr) (i : Nat) : depL (l.take i) ≤ depL l := depL_le.2 fun t ht => depL_le.1 (Nat.le_refl _) t (List.mem_of_mem_take ht)

set_option maxRecDepth 100000 in
set_option maxHeartbeats 4000000 in
theorem rdepth_any : ∀ (t : Tr) (v : Value) (w : World), Vl w v t → dep t ≤ 1000000 →
    Calls Tryd.prog 19 #[v] w fun e w' => e = .returned (.int .i64 (dep t)) ∧ Below w.heap.size w w' := by
  refine Tr.ind ?_
  intro k b s l n ih v w hv hd
  obtain ⟨A, m, c, B, q, d, rfl, hl, hn, hk, hs⟩ := hv.open_
  rw [dep_mk] at hd ⊢
  have IH := Lib.hid (fun (x : Tr) (hx : x ∈ l) (vx : Value) (wx : World) (hvx : Vl wx vx x) => ih x hx vx wx hvx (by have := depL_le.1 (Nat.le_refl (depL l)) x hx; omega))
  have HL : Hid (VL w A m c l) := Lib.hid hl
  have hlen : l.length = m := hl.len
  have hmx : m ≤ 9223372036854775807 := by have := hl.le; have := hl.max; unfold maxLen at *; omega
  have P0 := Lib.hid (show Bx (w.alloc (.cells #[.int .i64 k, .bool b, .string s, .slice A m c, .slice B q d] 25)) w.heap.size (.int .i64 k) (.bool b) (.string s) (.slice A m c) (.slice B q d) from heap_alloc_new w _)
  have B0 := Lib.hid (below_allocV w (.cells #[.int .i64 k, .bool b, .string s, .slice A m c, .slice B q d] 25))
  have hle : ∀ i, depL (l.take i) ≤ 1000000 := fun i => by have := depL_take_le l i; omega
  have HLE := Lib.hid hle
  show Calls _ _ #[.agg #[.int .i64 k, .bool b, .string s, .slice A m c, .slice B q d]] w _
  clear ih hv hl hn hle
  go_enter Tryd.func19, Tryd.ntmps19
  go_wp2
  obtain ⟨Q, hQ⟩ : ∃ Q, w.heap.size = Q := ⟨_, rfl⟩
  obtain ⟨W0, hW0⟩ : ∃ W0, w.alloc (.cells #[.int .i64 k, .bool b, .string s, .slice A m c, .slice B q d] 25) = W0 := ⟨_, rfl⟩
  rw [hW0] at P0 B0 ⊢
  rw [hQ] at P0 ⊢
  have HLT := Lib.hid P0.out.lt
  clear hQ hW0
  go_loopw [3, 4] (fun mv iv wr => ∃ i : Nat, mv = .int .i64 (depL (l.take i) : Nat) ∧ iv = .int .i64 i ∧ i ≤ m ∧ Hid (Below W0.heap.size W0 wr)) (fun _ iv _ => m - (intOf iv).toNat)
  case atStart => exact ⟨0, by rw [List.take_zero, depL_nil]; rfl, rfl, by omega, Lib.hid (Below.refl _ _)⟩
  case round =>
    obtain ⟨i, rfl, rfl, hi, hB⟩ := hrel
    have c3 := (P0.out.below hB.out HLT.out).c3
    have hmost := HLE.out i
    by_cases him : i < m
    · have i1 : (i : Int) < (m : Int) := by omega
      have hBW := ext_of B0.out hB.out
      obtain ⟨g, off, t, A', m', c', B', q', d', hA, ht, k0, k1, k2, k3, k4, hvt⟩ := (HL.out.below hBW).look him
      subst hA
      have CT := Lib.hid (IH.out t (List.mem_of_getElem? ht) _ wr hvt)
      have HT := Lib.hid (depL_take ht)
      have hmost2 := HLE.out (i + 1)
      rw [depL_take ht] at hmost2
      obtain ⟨X, hX⟩ : ∃ X, depL (l.take i) = X := ⟨_, rfl⟩
      obtain ⟨Y, hY⟩ : ∃ Y, dep t = Y := ⟨_, rfl⟩
      rw [hX] at HT hmost hmost2 ⊢
      rw [hY] at HT CT hmost2
      clear ht hvt hX hY hBW
      go_wp2_with fail
      refine CT.out.mono ?_
      rintro e w1 ⟨rfl, hb1⟩
      have B1 := Lib.hid (extV hB.out hb1)
      clear hb1
      go_wp2_with fail
      refine ⟨⟨i + 1, ?_, by go_num, by omega, B1⟩, by simp [intOf]; omega⟩
      rw [HT.out]
      by_cases hXY : X < Y
      · rw [if_pos hXY, show max X Y = Y by omega]
      · rw [if_neg hXY, show max X Y = X by omega]
    · obtain rfl : i = m := by omega
      have htk : l.take i = l := List.take_of_length_le (by omega)
      rw [htk] at hmost ⊢
      go_wp2
      go_ret
      exact ⟨rfl, ext_of B0.out hB.out⟩

/-- does one of these go deeper than so many? -/
def dpL (l : List Tr) (m : Int) : Bool := l.any fun x => decide (m < (dep x : Int))
theorem dp_any {k : Int} {b : Bool} {s : ByteArray} {l : List Tr} {n : List ByteArray} {m : Int} (hm : 0 ≤ m) : decide (m + 1 < (dep (.mk k b s l n) : Int)) = dpL l m := by
  rw [dep_mk]
  by_cases h : m < (depL l : Int)
  · obtain ⟨x, hx, hd⟩ := (deep_some hm).2 h
    rw [decide_eq_true (by omega)]
    exact (List.any_eq_true.2 ⟨x, hx, decide_eq_true hd⟩).symm
  · rw [decide_eq_false (by omega)]
    refine (List.any_eq_false.2 fun x hx => ?_).symm
    simp only [decide_eq_true_eq]
    intro hd
    exact h ((deep_some hm).1 ⟨x, hx, hd⟩)
theorem dpL_step {l : List Tr} {m : Int} {i : Nat} {t : Tr} (h : l[i]? = some t) : dpL (l.drop i) m = (decide (m < (dep t : Int)) || dpL (l.drop (i + 1)) m) := by
  have hi := (List.getElem?_eq_some_iff.1 h).1
  rw [List.drop_eq_getElem_cons hi]
  rw [List.getElem?_eq_getElem hi] at h
  injection h with h
  rw [h]; rfl
set_option maxRecDepth 100000 in
set_option maxHeartbeats 4000000 in
theorem deep_any : ∀ (t : Tr) (v : Value) (a : Int) (w : World), Vl w v t → -1 ≤ a → a ≤ 100000 →
    Calls Tryd.prog 36 #[v, .int .i64 a] w fun e w' => e = .returned (.bool (decide (a + 1 < (dep t : Int)))) ∧ Below w.heap.size w w' := by
  refine Tr.ind ?_
  intro k b s l n ih v a w hv ha0 ha1
  obtain ⟨A, m, c, B, q, d, rfl, hl, hn, hk, hs⟩ := hv.open_
  have hlen : l.length = m := hl.len
  have B0 := Lib.hid (below_allocV w (.cells #[.int .i64 k, .bool b, .string s, .slice A m c, .slice B q d] 25))
  show Calls _ _ #[.agg #[.int .i64 k, .bool b, .string s, .slice A m c, .slice B q d], .int .i64 a] w _
  by_cases han : a < 0
  · have he : decide (a + 1 < (dep (.mk k b s l n) : Int)) = true := decide_eq_true (by have := dep_pos (.mk k b s l n); omega)
    rw [he]
    clear ih hv hl hn he
    go_enter Tryd.func36, Tryd.ntmps36
    go_wp2
    go_ret
    exact ⟨rfl, B0.out⟩
  · rw [dp_any (by omega)]
    have IH := Lib.hid (fun (x : Tr) (hx : x ∈ l) (vx : Value) (wx : World) (hvx : Vl wx vx x) => ih x hx vx (a - 1) wx hvx (by omega) (by omega))
    rw [show a - 1 + 1 = a by omega] at IH
    have HL : Hid (VL w A m c l) := Lib.hid hl
    have hmx : m ≤ 9223372036854775807 := by have := hl.le; have := hl.max; unfold maxLen at *; omega
    have P0 := Lib.hid (show Bx (w.alloc (.cells #[.int .i64 k, .bool b, .string s, .slice A m c, .slice B q d] 25)) w.heap.size (.int .i64 k) (.bool b) (.string s) (.slice A m c) (.slice B q d) from heap_alloc_new w _)
    obtain ⟨Z, hZ⟩ : ∃ Z, dpL l a = Z := ⟨_, rfl⟩
    have HZ := Lib.hid hZ
    rw [hZ]
    clear ih hv hl hn hZ
    go_enter Tryd.func36, Tryd.ntmps36
    go_wp2
    obtain ⟨Q, hQ⟩ : ∃ Q, w.heap.size = Q := ⟨_, rfl⟩
    obtain ⟨W0, hW0⟩ : ∃ W0, w.alloc (.cells #[.int .i64 k, .bool b, .string s, .slice A m c, .slice B q d] 25) = W0 := ⟨_, rfl⟩
    rw [hW0] at P0 B0 ⊢
    rw [hQ] at P0 ⊢
    have HLT := Lib.hid P0.out.lt
    clear hQ hW0
    go_loopw [5] (fun iv wr => ∃ i : Nat, iv = .int .i64 i ∧ i ≤ m ∧ Hid (dpL (l.drop i) a = Z) ∧ Hid (Below W0.heap.size W0 wr)) (fun iv _ => m - (intOf iv).toNat)
    case atStart => exact ⟨0, rfl, by omega, HZ, Lib.hid (Below.refl _ _)⟩
    case round =>
      obtain ⟨i, rfl, hi, hZi, hB⟩ := hrel
      have c3 := (P0.out.below hB.out HLT.out).c3
      by_cases him : i < m
      · have i1 : (i : Int) < (m : Int) := by omega
        have hBW := extV B0.out hB.out
        obtain ⟨g, off, t, A', m', c', B', q', d', hA, ht, k0, k1, k2, k3, k4, hvt⟩ := (HL.out.below hBW).look him
        subst hA
        have CT := Lib.hid (IH.out t (List.mem_of_getElem? ht) _ wr hvt)
        have hst := hZi.out
        rw [dpL_step ht] at hst
        obtain ⟨Y, hY⟩ : ∃ Y, decide (a < (dep t : Int)) = Y := ⟨_, rfl⟩
        rw [hY] at CT hst
        have HST := Lib.hid hst
        clear ht hvt hY hst hBW
        go_wp2_with fail
        refine CT.out.mono ?_
        rintro e w1 ⟨rfl, hb1⟩
        have B1 := Lib.hid (extV hB.out hb1)
        have B2 := Lib.hid (extV B0.out B1.out)
        clear hb1
        cases Y with
        | true =>
          obtain rfl : true = Z := HST.out
          go_wp2_with fail
          go_ret
          exact ⟨rfl, B2.out⟩
        | false =>
          have HZ2 : Hid (dpL (l.drop (i + 1)) a = Z) := Lib.hid HST.out
          go_wp2_with fail
          exact ⟨⟨i + 1, by go_num, by omega, HZ2, B1⟩, by simp [intOf]; omega⟩
      · obtain rfl : i = m := by omega
        obtain rfl : false = Z := by have h := hZi.out; rw [List.drop_of_length_le (by omega)] at h; exact h
        have B2 := Lib.hid (extV B0.out hB.out)
        go_wp2
        go_ret
        exact ⟨rfl, B2.out⟩
set_option maxRecDepth 100000 in
set_option maxHeartbeats 4000000 in
theorem deepList_any (A : Option Addr) (m c : Nat) (l : List Tr) (w : World) (hl : VL w A m c l) :
    Calls Tryd.prog 13 #[.slice A m c] w fun e w' => e = .returned (.bool (dpL l 991)) ∧ Below w.heap.size w w' := by
  have hlen : l.length = m := hl.len
  have HL : Hid (VL w A m c l) := Lib.hid hl
  have hmx : m ≤ 9223372036854775807 := by have := hl.le; have := hl.max; unfold maxLen at *; omega
  obtain ⟨Z, hZ⟩ : ∃ Z, dpL l 991 = Z := ⟨_, rfl⟩
  have HZ := Lib.hid hZ
  rw [hZ]
  clear hl hZ
  go_enter Tryd.func13, Tryd.ntmps13
  go_wp2
  go_loopw [3] (fun iv wr => ∃ i : Nat, iv = .int .i64 i ∧ i ≤ m ∧ Hid (dpL (l.drop i) 991 = Z) ∧ Hid (Below w.heap.size w wr)) (fun iv _ => m - (intOf iv).toNat)
  case atStart => exact ⟨0, rfl, by omega, HZ, Lib.hid (Below.refl _ _)⟩
  case round =>
    obtain ⟨i, rfl, hi, hZi, hB⟩ := hrel
    by_cases him : i < m
    · have i1 : (i : Int) < (m : Int) := by omega
      obtain ⟨g, off, t, A', m', c', B', q', d', hA, ht, k0, k1, k2, k3, k4, hvt⟩ := (HL.out.below hB.out).look him
      subst hA
      have CT := Lib.hid (deep_any t _ 990 wr hvt (by omega) (by omega))
      have hst := hZi.out
      rw [dpL_step ht] at hst
      rw [show (990 : Int) + 1 = 991 from rfl] at CT
      obtain ⟨Y, hY⟩ : ∃ Y, decide (991 < (dep t : Int)) = Y := ⟨_, rfl⟩
      rw [hY] at CT hst
      have HST := Lib.hid hst
      clear ht hvt hY hst
      go_wp2_with fail
      refine CT.out.mono ?_
      rintro e w1 ⟨rfl, hb1⟩
      have B1 := Lib.hid (extV hB.out hb1)
      clear hb1
      cases Y with
      | true =>
        obtain rfl : true = Z := HST.out
        go_wp2_with fail
        go_ret
        exact ⟨rfl, B1.out⟩
      | false =>
        have HZ2 : Hid (dpL (l.drop (i + 1)) 991 = Z) := Lib.hid HST.out
        go_wp2_with fail
        exact ⟨⟨i + 1, by go_num, by omega, HZ2, B1⟩, by simp [intOf]; omega⟩
    · obtain rfl : i = m := by omega
      obtain rfl : false = Z := by have h := hZi.out; rw [List.drop_of_length_le (by omega)] at h; exact h
      go_wp2
      go_ret
      exact ⟨rfl, hB.out⟩
end Vt
end Go.Proofs.YtlgeibaejeiemaaDoor
