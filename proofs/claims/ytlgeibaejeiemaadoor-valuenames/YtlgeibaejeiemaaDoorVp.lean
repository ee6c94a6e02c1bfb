/-
  What the program's fits, mayNot and Check of layer 10 compute.
-/
import Derived.Test.YtlgeibaejeiemaaDoorVo
import Derived.Test.YtlgeibaejeiemaaDoorVf
namespace Go.Proofs.YtlgeibaejeiemaaDoor
set_option linter.unusedVariables false
set_option linter.unusedSimpArgs false
open Go.RowKit
namespace Vt
open Wd We

/-- has a value a kind that there is, and the fields of that kind alone? -/
def fitB (k : Int) (b : Bool) (s : ByteArray) (m q : Nat) : Bool := (decide (0 ≤ k ∧ k ≤ 5)) && (!b || decide (k = 1)) && (decide (s.size = 0) || decide (k = 2) || decide (k = 3)) && (decide (m = 0) || decide (4 ≤ k)) && (decide (q = 0) || decide (k = 5)) &&
  (!decide (k = 5) || decide (q = m))
theorem may_fit (k : Int) (b : Bool) (s : ByteArray) (l : List Tr) (n : List ByteArray) : may (.mk k b s l n) = (fitB k b s l.length n.length && l.all may) := by rw [may_mk]; rfl
set_option maxRecDepth 100000 in
set_option maxHeartbeats 8000000 in
theorem fits_any (k : Int) (b : Bool) (s : ByteArray) (A : Option Addr) (m c : Nat) (B : Option Addr) (q d : Nat) (w : World) :
    Calls Tryd.prog 44 #[.agg #[.int .i64 k, .bool b, .string s, .slice A m c, .slice B q d]] w fun e w' => e = .returned (.bool (fitB k b s m q)) ∧ Below w.heap.size w w' := by
  obtain ⟨Z, hZ⟩ : ∃ Z, fitB k b s m q = Z := ⟨_, rfl⟩
  rw [hZ]
  have P0 := Lib.hid (show Bx (w.alloc (.cells #[.int .i64 k, .bool b, .string s, .slice A m c, .slice B q d] 25)) w.heap.size (.int .i64 k) (.bool b) (.string s) (.slice A m c) (.slice B q d) from heap_alloc_new w _)
  have B0 := Lib.hid (below_allocV w (.cells #[.int .i64 k, .bool b, .string s, .slice A m c, .slice B q d] 25))
  obtain ⟨Q, hQ⟩ : ∃ Q, w.heap.size = Q := ⟨_, rfl⟩
  obtain ⟨W0, hW0⟩ : ∃ W0, w.alloc (.cells #[.int .i64 k, .bool b, .string s, .slice A m c, .slice B q d] 25) = W0 := ⟨_, rfl⟩
  rw [hW0] at P0 B0
  rw [hQ] at P0
  have HQ := Lib.hid hQ
  have HW0 := Lib.hid hW0
  have c0 := P0.out.c0
  have c1 := P0.out.c1
  have c2 := P0.out.c2
  have c3 := P0.out.c3
  have c4 := P0.out.c4
  have HZ := Lib.hid hZ
  clear hZ hQ hW0
  go_enter Tryd.func44, Tryd.ntmps44
  go_upto_region 1 with fail
  rw [HW0.out, HQ.out]
  clear HW0
  by_cases hk0 : k = 0
  · subst hk0
    go_upto_region 15 with fail
    have BL := B0
    cases b with
    | true =>
      obtain rfl : false = Z := by rw [← HZ.out]; unfold fitB; simp [*]
      go_wp2_with fail
      go_ret
      exact ⟨rfl, BL.out⟩
    | false =>
      by_cases hs0 : s.size = 0
      · have hse : s.toList.isEmpty = true := by rw [ba_empty]; exact decide_eq_true hs0
        have hse2 : (s.toList == []) = true := by cases hh : s.toList <;> simp_all
        by_cases hq0 : q = 0
        · have hq1 : (q : Int) = 0 := by omega
          by_cases hm0 : m = 0
          · have hm1 : (m : Int) = 0 := by omega
            have hm2 : ((m : Int) == 0) = true := beq_iff_eq.2 hm1
            obtain rfl : true = Z := by rw [← HZ.out]; unfold fitB; simp [*]
            go_wp2_with fail
            go_ret
            exact ⟨rfl, BL.out⟩
          · have hm1 : ¬ (m : Int) = 0 := by omega
            have hm2 : ((m : Int) == 0) = false := beq_eq_false_iff_ne.2 hm1
            obtain rfl : false = Z := by rw [← HZ.out]; unfold fitB; simp [*]
            go_wp2_with fail
            go_ret
            exact ⟨rfl, BL.out⟩
        · have hq1 : ¬ (q : Int) = 0 := by omega
          obtain rfl : false = Z := by rw [← HZ.out]; unfold fitB; simp [*]
          go_wp2_with fail
          go_ret
          exact ⟨rfl, BL.out⟩
      · have hse : s.toList.isEmpty = false := by rw [ba_empty]; exact decide_eq_false hs0
        have hse2 : (s.toList == []) = false := by cases hh : s.toList <;> simp_all
        obtain rfl : false = Z := by rw [← HZ.out]; unfold fitB; simp [*]
        go_wp2_with fail
        go_ret
        exact ⟨rfl, BL.out⟩
  · skip
    by_cases hk1 : k = 1
    · subst hk1
      have f0 := P0.out.fz 0; have f1 := P0.out.fz 1; have f2 := P0.out.fz 2; have f3 := P0.out.fz 3; have f4 := P0.out.fz 4
      go_upto_region 15 with fail
      have P1 := (P0.out).set1 (.bool false)
      have BL := Lib.hid ((B0.out).setCell (p := ⟨Q, 1, none⟩) (show w.heap.size ≤ Q by have := HQ.out; omega) (.bool false))
      clear c0 c1 c2 c3 c4 f0 f1 f2 f3 f4
      generalize W0.setCell ⟨Q, 1, none⟩ (.bool false) = W1 at *
      have c0 := P1.c0; have c1 := P1.c1; have c2 := P1.c2; have c3 := P1.c3; have c4 := P1.c4
      clear P1
      by_cases hs0 : s.size = 0
      · have hse : s.toList.isEmpty = true := by rw [ba_empty]; exact decide_eq_true hs0
        have hse2 : (s.toList == []) = true := by cases hh : s.toList <;> simp_all
        by_cases hq0 : q = 0
        · have hq1 : (q : Int) = 0 := by omega
          by_cases hm0 : m = 0
          · have hm1 : (m : Int) = 0 := by omega
            have hm2 : ((m : Int) == 0) = true := beq_iff_eq.2 hm1
            obtain rfl : true = Z := by rw [← HZ.out]; unfold fitB; simp [*]
            go_wp2_with fail
            go_ret
            exact ⟨rfl, BL.out⟩
          · have hm1 : ¬ (m : Int) = 0 := by omega
            have hm2 : ((m : Int) == 0) = false := beq_eq_false_iff_ne.2 hm1
            obtain rfl : false = Z := by rw [← HZ.out]; unfold fitB; simp [*]
            go_wp2_with fail
            go_ret
            exact ⟨rfl, BL.out⟩
        · have hq1 : ¬ (q : Int) = 0 := by omega
          obtain rfl : false = Z := by rw [← HZ.out]; unfold fitB; simp [*]
          go_wp2_with fail
          go_ret
          exact ⟨rfl, BL.out⟩
      · have hse : s.toList.isEmpty = false := by rw [ba_empty]; exact decide_eq_false hs0
        have hse2 : (s.toList == []) = false := by cases hh : s.toList <;> simp_all
        obtain rfl : false = Z := by rw [← HZ.out]; unfold fitB; simp [*]
        go_wp2_with fail
        go_ret
        exact ⟨rfl, BL.out⟩
    · skip
      by_cases hk2 : k = 2
      · subst hk2
        have f0 := P0.out.fz 0; have f1 := P0.out.fz 1; have f2 := P0.out.fz 2; have f3 := P0.out.fz 3; have f4 := P0.out.fz 4
        go_upto_region 15 with fail
        have P1 := (P0.out).set2 (.string ⟨#[]⟩)
        have BL := Lib.hid ((B0.out).setCell (p := ⟨Q, 2, none⟩) (show w.heap.size ≤ Q by have := HQ.out; omega) (.string ⟨#[]⟩))
        clear c0 c1 c2 c3 c4 f0 f1 f2 f3 f4
        generalize W0.setCell ⟨Q, 2, none⟩ (.string ⟨#[]⟩) = W1 at *
        have c0 := P1.c0; have c1 := P1.c1; have c2 := P1.c2; have c3 := P1.c3; have c4 := P1.c4
        clear P1
        cases b with
        | true =>
          obtain rfl : false = Z := by rw [← HZ.out]; unfold fitB; simp [*]
          go_wp2_with fail
          go_ret
          exact ⟨rfl, BL.out⟩
        | false =>
          by_cases hq0 : q = 0
          · have hq1 : (q : Int) = 0 := by omega
            by_cases hm0 : m = 0
            · have hm1 : (m : Int) = 0 := by omega
              have hm2 : ((m : Int) == 0) = true := beq_iff_eq.2 hm1
              obtain rfl : true = Z := by rw [← HZ.out]; unfold fitB; simp [*]
              go_wp2_with fail
              go_ret
              exact ⟨rfl, BL.out⟩
            · have hm1 : ¬ (m : Int) = 0 := by omega
              have hm2 : ((m : Int) == 0) = false := beq_eq_false_iff_ne.2 hm1
              obtain rfl : false = Z := by rw [← HZ.out]; unfold fitB; simp [*]
              go_wp2_with fail
              go_ret
              exact ⟨rfl, BL.out⟩
          · have hq1 : ¬ (q : Int) = 0 := by omega
            obtain rfl : false = Z := by rw [← HZ.out]; unfold fitB; simp [*]
            go_wp2_with fail
            go_ret
            exact ⟨rfl, BL.out⟩
      · skip
        by_cases hk3 : k = 3
        · subst hk3
          have f0 := P0.out.fz 0; have f1 := P0.out.fz 1; have f2 := P0.out.fz 2; have f3 := P0.out.fz 3; have f4 := P0.out.fz 4
          go_upto_region 15 with fail
          have P1 := (P0.out).set2 (.string ⟨#[]⟩)
          have BL := Lib.hid ((B0.out).setCell (p := ⟨Q, 2, none⟩) (show w.heap.size ≤ Q by have := HQ.out; omega) (.string ⟨#[]⟩))
          clear c0 c1 c2 c3 c4 f0 f1 f2 f3 f4
          generalize W0.setCell ⟨Q, 2, none⟩ (.string ⟨#[]⟩) = W1 at *
          have c0 := P1.c0; have c1 := P1.c1; have c2 := P1.c2; have c3 := P1.c3; have c4 := P1.c4
          clear P1
          cases b with
          | true =>
            obtain rfl : false = Z := by rw [← HZ.out]; unfold fitB; simp [*]
            go_wp2_with fail
            go_ret
            exact ⟨rfl, BL.out⟩
          | false =>
            by_cases hq0 : q = 0
            · have hq1 : (q : Int) = 0 := by omega
              by_cases hm0 : m = 0
              · have hm1 : (m : Int) = 0 := by omega
                have hm2 : ((m : Int) == 0) = true := beq_iff_eq.2 hm1
                obtain rfl : true = Z := by rw [← HZ.out]; unfold fitB; simp [*]
                go_wp2_with fail
                go_ret
                exact ⟨rfl, BL.out⟩
              · have hm1 : ¬ (m : Int) = 0 := by omega
                have hm2 : ((m : Int) == 0) = false := beq_eq_false_iff_ne.2 hm1
                obtain rfl : false = Z := by rw [← HZ.out]; unfold fitB; simp [*]
                go_wp2_with fail
                go_ret
                exact ⟨rfl, BL.out⟩
            · have hq1 : ¬ (q : Int) = 0 := by omega
              obtain rfl : false = Z := by rw [← HZ.out]; unfold fitB; simp [*]
              go_wp2_with fail
              go_ret
              exact ⟨rfl, BL.out⟩
        · skip
          by_cases hk4 : k = 4
          · subst hk4
            have f0 := P0.out.fz 0; have f1 := P0.out.fz 1; have f2 := P0.out.fz 2; have f3 := P0.out.fz 3; have f4 := P0.out.fz 4
            go_upto_region 15 with fail
            have P1 := (P0.out).set3 (.slice none 0 0)
            have BL := Lib.hid ((B0.out).setCell (p := ⟨Q, 3, none⟩) (show w.heap.size ≤ Q by have := HQ.out; omega) (.slice none 0 0))
            clear c0 c1 c2 c3 c4 f0 f1 f2 f3 f4
            generalize W0.setCell ⟨Q, 3, none⟩ (.slice none 0 0) = W1 at *
            have c0 := P1.c0; have c1 := P1.c1; have c2 := P1.c2; have c3 := P1.c3; have c4 := P1.c4
            clear P1
            cases b with
            | true =>
              obtain rfl : false = Z := by rw [← HZ.out]; unfold fitB; simp [*]
              go_wp2_with fail
              go_ret
              exact ⟨rfl, BL.out⟩
            | false =>
              by_cases hs0 : s.size = 0
              · have hse : s.toList.isEmpty = true := by rw [ba_empty]; exact decide_eq_true hs0
                have hse2 : (s.toList == []) = true := by cases hh : s.toList <;> simp_all
                by_cases hq0 : q = 0
                · have hq1 : (q : Int) = 0 := by omega
                  obtain rfl : true = Z := by rw [← HZ.out]; unfold fitB; simp [*]
                  go_wp2_with fail
                  go_ret
                  exact ⟨rfl, BL.out⟩
                · have hq1 : ¬ (q : Int) = 0 := by omega
                  obtain rfl : false = Z := by rw [← HZ.out]; unfold fitB; simp [*]
                  go_wp2_with fail
                  go_ret
                  exact ⟨rfl, BL.out⟩
              · have hse : s.toList.isEmpty = false := by rw [ba_empty]; exact decide_eq_false hs0
                have hse2 : (s.toList == []) = false := by cases hh : s.toList <;> simp_all
                obtain rfl : false = Z := by rw [← HZ.out]; unfold fitB; simp [*]
                go_wp2_with fail
                go_ret
                exact ⟨rfl, BL.out⟩
          · skip
            by_cases hk5 : k = 5
            · subst hk5
              by_cases hqm : q = m
              · have hqm1 : (q : Int) = (m : Int) := by omega
                have f0 := P0.out.fz 0; have f1 := P0.out.fz 1; have f2 := P0.out.fz 2; have f3 := P0.out.fz 3; have f4 := P0.out.fz 4
                go_upto_region 15 with fail
                have P1 := ((P0.out).set4 (.slice none 0 0)).set3 (.slice none 0 0)
                have BL := Lib.hid (((B0.out).setCell (p := ⟨Q, 4, none⟩) (show w.heap.size ≤ Q by have := HQ.out; omega) (.slice none 0 0)).setCell (p := ⟨Q, 3, none⟩) (show w.heap.size ≤ Q by have := HQ.out; omega) (.slice none 0 0))
                clear c0 c1 c2 c3 c4 f0 f1 f2 f3 f4
                generalize (W0.setCell ⟨Q, 4, none⟩ (.slice none 0 0)).setCell ⟨Q, 3, none⟩ (.slice none 0 0) = W1 at *
                have c0 := P1.c0; have c1 := P1.c1; have c2 := P1.c2; have c3 := P1.c3; have c4 := P1.c4
                clear P1
                cases b with
                | true =>
                  obtain rfl : false = Z := by rw [← HZ.out]; unfold fitB; simp [*]
                  go_wp2_with fail
                  go_ret
                  exact ⟨rfl, BL.out⟩
                | false =>
                  by_cases hs0 : s.size = 0
                  · have hse : s.toList.isEmpty = true := by rw [ba_empty]; exact decide_eq_true hs0
                    have hse2 : (s.toList == []) = true := by cases hh : s.toList <;> simp_all
                    obtain rfl : true = Z := by rw [← HZ.out]; unfold fitB; simp [*]
                    go_wp2_with fail
                    go_ret
                    exact ⟨rfl, BL.out⟩
                  · have hse : s.toList.isEmpty = false := by rw [ba_empty]; exact decide_eq_false hs0
                    have hse2 : (s.toList == []) = false := by cases hh : s.toList <;> simp_all
                    obtain rfl : false = Z := by rw [← HZ.out]; unfold fitB; simp [*]
                    go_wp2_with fail
                    go_ret
                    exact ⟨rfl, BL.out⟩
              · have hqm1 : ¬ (q : Int) = (m : Int) := by omega
                have BL := B0
                obtain rfl : false = Z := by rw [← HZ.out]; unfold fitB; simp [*]
                go_wp2_with fail
                go_ret
                exact ⟨rfl, BL.out⟩
            · skip
              have BL := B0
              have hko : ¬ (0 ≤ k ∧ k ≤ 5) := by omega
              obtain rfl : false = Z := by rw [← HZ.out]; unfold fitB; simp [*]
              go_wp2_with fail
              go_ret
              exact ⟨rfl, BL.out⟩

/-- what mayNot tells of a value -/
def MnI (x : Tr) : Prop := ∀ (vx : Value) (wx : World), Vl wx vx x → Calls Tryd.prog 37 #[vx] wx fun e w' => e = .returned (.bool (!may x)) ∧ Below wx.heap.size wx w'
theorem all_take {l : List Tr} {i : Nat} {t : Tr} (h : l[i]? = some t) (ht : may t = true) (ha : (l.take i).all may = true) : (l.take (i + 1)).all may = true := by
  rw [List.take_add_one, h, List.all_append, ha]
  simp [ht]
set_option maxRecDepth 100000 in
set_option maxHeartbeats 8000000 in
theorem idx_any (A : Option Addr) (m c : Nat) (l : List Tr) (w : World) (hl : VL w A m c l) (ih : ∀ x ∈ l, MnI x) :
    Calls Tryd.prog 47 #[.slice A m c, .func (.func 37) #[] #[]] w fun e w' => (∃ r : Int, e = .returned (.int .i64 r) ∧ decide (0 ≤ r) = !(l.all may)) ∧ Below w.heap.size w w' := by
  have hlm : l.length = m := hl.len
  have IH := Lib.hid ih
  have HL : Hid (VL w A m c l) := Lib.hid hl
  have hmx : m ≤ 9223372036854775807 := by have := hl.le; have := hl.max; unfold maxLen at *; omega
  clear ih hl
  go_enter Tryd.func47, Tryd.ntmps47
  go_wp2_with fail
  go_loopw [8] (fun iv wr => ∃ i : Nat, iv = .int .i64 i ∧ i ≤ m ∧ Hid ((l.take i).all may = true) ∧ Hid (Below w.heap.size w wr)) (fun iv _ => m - (intOf iv).toNat)
  case atStart => exact ⟨0, rfl, by omega, Lib.hid rfl, Lib.hid (Below.refl _ _)⟩
  case round =>
    obtain ⟨i, rfl, hi, hT, hB⟩ := hrel
    by_cases him : i < m
    · have i1 : (i : Int) < (m : Int) := by omega
      obtain ⟨g, off, x, X1, x2, x3, X4, x5, x6, rfl, hx, k0, k1, k2, k3, k4, hvx⟩ := (HL.out.below hB.out).look him
      have CT := Lib.hid (IH.out x (List.mem_of_getElem? hx) _ wr hvx)
      have HX := Lib.hid hx
      clear hx hvx
      cases hm : may x with
      | true =>
        have HT := Lib.hid (all_take HX.out hm hT.out)
        rw [hm] at CT
        clear hm
        go_wp2_with fail
        refine CT.out.mono ?_
        rintro e w1 ⟨rfl, hb1⟩
        have B1 := Lib.hid (extV hB.out hb1)
        clear hb1 k0 k1 k2 k3 k4
        go_wp2_with fail
        exact ⟨⟨i + 1, by go_num, by omega, HT, B1⟩, by simp [intOf]; omega⟩
      | false =>
        have HF : Hid (l.all may = false) := Lib.hid (by
          rw [List.all_eq_false]
          exact ⟨x, List.mem_of_getElem? HX.out, by rw [hm]; decide⟩)
        rw [hm] at CT
        clear hm
        go_wp2_with fail
        refine CT.out.mono ?_
        rintro e w1 ⟨rfl, hb1⟩
        have B1 := Lib.hid (extV hB.out hb1)
        clear hb1 k0 k1 k2 k3 k4
        go_wp2_with fail
        go_ret
        refine ⟨⟨_, rfl, ?_⟩, B1.out⟩
        rw [HF.out]
        exact decide_eq_true (by omega)
    · obtain rfl : i = m := by omega
      have h := hT.out
      rw [List.take_of_length_le (by omega)] at h
      have H := Lib.hid h
      clear h
      go_wp2
      go_ret
      refine ⟨⟨_, rfl, ?_⟩, hB.out⟩
      rw [H.out]; rfl
set_option maxRecDepth 100000 in
set_option maxHeartbeats 8000000 in
theorem cont_any (A : Option Addr) (m c : Nat) (l : List Tr) (w : World) (hl : VL w A m c l) (ih : ∀ x ∈ l, MnI x) :
    Calls Tryd.prog 45 #[.slice A m c, .func (.func 37) #[] #[]] w fun e w' => e = .returned (.bool (!(l.all may))) ∧ Below w.heap.size w w' := by
  have CT := Lib.hid (idx_any A m c l w hl ih)
  obtain ⟨Z, hZ⟩ : ∃ Z, (!(l.all may)) = Z := ⟨_, rfl⟩
  rw [hZ] at CT ⊢
  clear hl ih hZ
  go_enter Tryd.func45, Tryd.ntmps45
  go_wp2_with fail
  refine CT.out.mono ?_
  rintro e w1 ⟨⟨r, rfl, hr⟩, hb1⟩
  have B1 := Lib.hid hb1
  clear hb1
  cases Z with
  | true =>
    have h1 := of_decide_eq_true hr
    go_wp2_with fail
    go_ret
    exact ⟨rfl, B1.out⟩
  | false =>
    have h1 := of_decide_eq_false hr
    go_wp2_with fail
    go_ret
    exact ⟨rfl, B1.out⟩
set_option maxRecDepth 100000 in
set_option maxHeartbeats 8000000 in
theorem mayNot_any : ∀ (t : Tr), MnI t := by
  refine Tr.ind ?_
  intro k b s l n ih v w hv
  obtain ⟨A, m, c, B, q, d, rfl, hl, hn, hk, hs⟩ := hv.open_
  show Calls _ _ #[.agg #[.int .i64 k, .bool b, .string s, .slice A m c, .slice B q d]] w _
  obtain ⟨Z, hZ⟩ : ∃ Z, (!(may (.mk k b s l n))) = Z := ⟨_, rfl⟩
  rw [hZ]
  have hlm : l.length = m := hl.len
  have hnq : n.length = q := hn.len
  rw [may_fit, hlm, hnq] at hZ
  have FT := Lib.hid (fits_any k b s A m c B q d)
  have CT := Lib.hid (fun (w' : World) (h : Below w.heap.size w w') => cont_any A m c l w' (hl.below h) ih)
  have P0 := Lib.hid (show Bx (w.alloc (.cells #[.int .i64 k, .bool b, .string s, .slice A m c, .slice B q d] 25)) w.heap.size (.int .i64 k) (.bool b) (.string s) (.slice A m c) (.slice B q d) from heap_alloc_new w _)
  have B0 := Lib.hid (below_allocV w (.cells #[.int .i64 k, .bool b, .string s, .slice A m c, .slice B q d] 25))
  obtain ⟨Q, hQ⟩ : ∃ Q, w.heap.size = Q := ⟨_, rfl⟩
  obtain ⟨W0, hW0⟩ : ∃ W0, w.alloc (.cells #[.int .i64 k, .bool b, .string s, .slice A m c, .slice B q d] 25) = W0 := ⟨_, rfl⟩
  rw [hW0] at P0 B0
  rw [hQ] at P0
  have HQ := Lib.hid hQ
  have HW0 := Lib.hid hW0
  have c0 := P0.out.c0
  have c1 := P0.out.c1
  have c2 := P0.out.c2
  have c3 := P0.out.c3
  have c4 := P0.out.c4
  have HZ := Lib.hid hZ
  clear hZ hQ hW0 ih hv hl hn hlm hnq hk hs
  go_enter Tryd.func37, Tryd.ntmps37
  go_upto_region 1 with fail
  rw [HW0.out, HQ.out]
  clear HW0
  have F1 := Lib.hid (FT.out W0)
  cases hf : fitB k b s m q with
  | false =>
    rw [hf] at F1
    obtain rfl : true = Z := by rw [← HZ.out, hf]; rfl
    clear hf
    go_wp2_with fail
    refine F1.out.mono ?_
    rintro e w1 ⟨rfl, hb1⟩
    have B1 := Lib.hid (extV B0.out hb1)
    clear hb1 c0 c1 c2 c3 c4
    go_wp2_with fail
    go_ret
    exact ⟨rfl, B1.out⟩
  | true =>
    rw [hf] at F1
    have hY := Lib.hid (show (!(l.all may)) = Z by rw [← HZ.out, hf, Bool.true_and])
    clear hf
    go_wp2_with fail
    refine F1.out.mono ?_
    rintro e w1 ⟨rfl, hb1⟩
    have B1 := Lib.hid (extV B0.out hb1)
    have P1 := P0.out.below hb1 P0.out.lt
    clear hb1 c0 c1 c2 c3 c4
    have c3 := P1.c3
    clear P1
    have C1 := Lib.hid (CT.out w1 B1.out)
    rw [hY.out] at C1
    go_wp2_with fail
    refine C1.out.mono ?_
    rintro e w2 ⟨rfl, hb2⟩
    have B2 := Lib.hid (extV B1.out hb2)
    clear hb2 c3
    go_wp2_with fail
    go_ret
    exact ⟨rfl, B2.out⟩
set_option maxRecDepth 100000 in
set_option maxHeartbeats 4000000 in
theorem check_any (t : Tr) (v : Value) (w : World) (hv : Vl w v t) (hd : dep t ≤ 1000000) :
    Calls Tryd.prog 16 #[v] w fun e w' => e = .returned (.int .i64 (chk t)) ∧ Below w.heap.size w w' := by
  obtain ⟨A, m, c, B, q, d, rfl, hl, hn, hk, hs⟩ := hv.open_
  have MY := Lib.hid (fun (w' : World) (h : Below w.heap.size w w') => mayNot_any t _ w' (Vl.up h t hv))
  have DP := Lib.hid (fun (w' : World) (h : Below w.heap.size w w') => depth_any t _ w' (Vl.up h t hv) hd)
  obtain ⟨k, hk1⟩ : ∃ k, t.kind = k := ⟨_, rfl⟩
  obtain ⟨b, hb1⟩ : ∃ b, t.isB = b := ⟨_, rfl⟩
  obtain ⟨s, hs1⟩ : ∃ s, t.text = s := ⟨_, rfl⟩
  rw [hk1, hb1, hs1] at MY DP ⊢
  have P0 := Lib.hid (show Bx (w.alloc (.cells #[.int .i64 k, .bool b, .string s, .slice A m c, .slice B q d] 25)) w.heap.size (.int .i64 k) (.bool b) (.string s) (.slice A m c) (.slice B q d) from heap_alloc_new w _)
  have B0 := Lib.hid (below_allocV w (.cells #[.int .i64 k, .bool b, .string s, .slice A m c, .slice B q d] 25))
  obtain ⟨Q, hQ⟩ : ∃ Q, w.heap.size = Q := ⟨_, rfl⟩
  obtain ⟨W0, hW0⟩ : ∃ W0, w.alloc (.cells #[.int .i64 k, .bool b, .string s, .slice A m c, .slice B q d] 25) = W0 := ⟨_, rfl⟩
  rw [hW0] at P0 B0
  rw [hQ] at P0
  have HQ := Lib.hid hQ
  have HW0 := Lib.hid hW0
  have HLT := Lib.hid P0.out.lt
  have c0 := P0.out.c0
  have c1 := P0.out.c1
  have c2 := P0.out.c2
  have c3 := P0.out.c3
  have c4 := P0.out.c4
  obtain ⟨Z, hZ⟩ : ∃ Z, chk t = Z := ⟨_, rfl⟩
  rw [hZ]
  have HZ := Lib.hid hZ
  obtain ⟨D, hD⟩ : ∃ D, dep t = D := ⟨_, rfl⟩
  rw [hD] at DP
  have HD := Lib.hid hD
  clear hv hl hn hk hs hk1 hb1 hs1 hQ hW0 hZ hD hd
  go_enter Tryd.func16, Tryd.ntmps16
  go_upto_region 1 with fail
  rw [HW0.out, HQ.out]
  go_wp2_with fail
  refine (MY.out W0 B0.out).mono ?_
  rintro e w1 ⟨rfl, hb1⟩
  have P1 := P0.out.below hb1 HLT.out
  have B1 := Lib.hid (extV B0.out hb1)
  clear hb1 c0 c1 c2 c3 c4
  have c0 := P1.c0
  have c1 := P1.c1
  have c2 := P1.c2
  have c3 := P1.c3
  have c4 := P1.c4
  clear P1
  cases hm : may t with
  | false =>
    obtain rfl : (2 : Int) = Z := by rw [← HZ.out]; unfold chk; rw [if_pos hm]
    clear hm
    go_wp2_with fail
    go_ret
    exact ⟨rfl, B1.out⟩
  | true =>
    have hz := HZ.out
    unfold chk at hz
    rw [if_neg (by rw [hm]; decide), HD.out] at hz
    have HZ2 := Lib.hid hz
    clear hm hz
    go_wp2_with fail
    refine (DP.out w1 B1.out).mono ?_
    rintro e w2 ⟨rfl, hb2⟩
    have B2 := Lib.hid (extV B1.out hb2)
    clear hb2
    by_cases h128 : 128 < D
    · have g1 : (128 : Int) < (D : Int) := by omega
      obtain rfl : (111 : Int) = Z := by rw [← HZ2.out, if_pos h128]
      go_wp2_with fail
      go_ret
      exact ⟨rfl, B2.out⟩
    · have g1 : ¬ (128 : Int) < (D : Int) := by omega
      obtain rfl : (0 : Int) = Z := by rw [← HZ2.out, if_neg h128]
      go_wp2_with fail
      go_ret
      exact ⟨rfl, B2.out⟩
end Vt
end Go.Proofs.YtlgeibaejeiemaaDoor
