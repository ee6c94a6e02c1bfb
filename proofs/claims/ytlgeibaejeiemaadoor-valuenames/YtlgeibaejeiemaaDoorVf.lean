/-
  What the document's May and Check of layer 10 compute.
-/
import Derived.Test.YtlgeibaejeiemaaDoorVe
namespace Go.Proofs.YtlgeibaejeiemaaDoor
set_option linter.unusedVariables false
set_option linter.unusedSimpArgs false
open Go.RowKit
namespace Vt
open Wd We

theorem ba_empty {s : ByteArray} : s.toList.isEmpty = decide (s.size = 0) := by
  obtain ⟨⟨l⟩⟩ := s
  rw [ByteArray.toList_mk]
  cases l <;> rfl
theorem all_step {l : List Tr} {i : Nat} {t : Tr} (h : l[i]? = some t) : (l.drop i).all may = (may t && (l.drop (i + 1)).all may) := by
  have hi := (List.getElem?_eq_some_iff.1 h).1
  rw [List.drop_eq_getElem_cons hi]
  rw [List.getElem?_eq_getElem hi] at h
  injection h with h
  rw [h]; rfl
set_option maxRecDepth 100000 in
set_option maxHeartbeats 16000000 in
theorem may_any : ∀ (t : Tr) (v : Value) (w : World), Vl w v t →
    Calls Tryd.prog 38 #[v] w fun e w' => e = .returned (.bool (may t)) ∧ Below w.heap.size w w' := by
  refine Tr.ind ?_
  intro k b s l n ih v w hv
  obtain ⟨A, m, c, B, q, d, rfl, hl, hn, hk, hs⟩ := hv.open_
  show Calls _ _ #[.agg #[.int .i64 k, .bool b, .string s, .slice A m c, .slice B q d]] w _
  have IH := Lib.hid (fun (x : Tr) (hx : x ∈ l) (vx : Value) (wx : World) (hvx : Vl wx vx x) => ih x hx vx wx hvx)
  have HL : Hid (VL w A m c l) := Lib.hid hl
  have hlen : l.length = m := hl.len
  have hnen : n.length = q := hn.len
  have hmx : m ≤ 9223372036854775807 := by have := hl.le; have := hl.max; unfold maxLen at *; omega
  have hqx : q ≤ 9223372036854775807 := by have := hn.le; have := hn.max; unfold maxLen at *; omega
  obtain ⟨Z, hZ⟩ : ∃ Z, may (.mk k b s l n) = Z := ⟨_, rfl⟩
  rw [hZ]
  rw [may_mk, hlen, hnen] at hZ
  have hem := ba_empty (s := s)
  have P0 := Lib.hid (show Bx (w.alloc (.cells #[.int .i64 k, .bool b, .string s, .slice A m c, .slice B q d] 25)) w.heap.size (.int .i64 k) (.bool b) (.string s) (.slice A m c) (.slice B q d) from heap_alloc_new w _)
  have B0 := Lib.hid (below_allocV w (.cells #[.int .i64 k, .bool b, .string s, .slice A m c, .slice B q d] 25))
  obtain ⟨Q, hQ⟩ : ∃ Q, w.heap.size = Q := ⟨_, rfl⟩
  obtain ⟨W0, hW0⟩ : ∃ W0, w.alloc (.cells #[.int .i64 k, .bool b, .string s, .slice A m c, .slice B q d] 25) = W0 := ⟨_, rfl⟩
  rw [hW0] at P0 B0
  rw [hQ] at P0
  have HQ := Lib.hid hQ
  have HW0 := Lib.hid hW0
  have HLT := Lib.hid P0.out.lt
  have c0 := P0.out.c0
  have c1 := P0.out.c1
  have c2 := P0.out.c2
  have c3 := P0.out.c3
  have c4 := P0.out.c4
  have HZ := Lib.hid hZ
  clear ih hv hl hn hZ hQ hW0 hs
  go_enter Tryd.func38, Tryd.ntmps38
  go_upto_region 1 with fail
  rw [HW0.out, HQ.out]
  clear HW0 HQ
  have hk0 := Lib.hid hk
  clear hk
  obtain ⟨N, hN⟩ : ∃ N, (!((decide (0 ≤ k ∧ k ≤ 5)) && (!b || decide (k = 1)) && (decide (s.size = 0) || decide (k = 2) || decide (k = 3)) && (decide (m = 0) || decide (4 ≤ k)) && (decide (q = 0) || decide (k = 5)))) = N := ⟨_, rfl⟩
  have HN := Lib.hid hN
  have HZN : Hid (Z = (!N && (!decide (k = 5) || decide (q = m)) && l.all may)) := Lib.hid (by rw [← HZ.out, ← hN, Bool.not_not])
  clear hN
  go_cut [57] from 4 to 57 (fun sx wx => sx = .bool N ∧ wx = W0)
  case first =>
    by_cases hk1 : k < 0
    · have hk2 : ¬ 0 ≤ k := by omega
      obtain rfl : true = N := by rw [← HN.out]; simp [hk2]
      go_wp2_with fail
      go_meet
      exact ⟨rfl, rfl⟩
    by_cases hk3 : 5 < k
    · have hk4 : ¬ k ≤ 5 := by omega
      obtain rfl : true = N := by rw [← HN.out]; simp [hk4]
      go_wp2_with fail
      go_meet
      exact ⟨rfl, rfl⟩
    rcases (show k = 0 ∨ k = 1 ∨ k = 2 ∨ k = 3 ∨ k = 4 ∨ k = 5 by omega) with rfl | rfl | rfl | rfl | rfl | rfl
    · cases b with
      | false =>
        by_cases hs0 : s.size = 0
        · have g1 : s.toList.isEmpty = true := by rw [hem]; exact decide_eq_true hs0
          by_cases hm0 : 0 < m
          · have g3 : (0 : Int) < (m : Int) := by omega
            have g4 : ¬ m = 0 := by omega
            obtain rfl : true = N := by rw [← HN.out]; simp [hs0, g4]
            go_wp2_with fail
            go_meet
            exact ⟨rfl, rfl⟩
          · have g3 : ¬ (0 : Int) < (m : Int) := by omega
            have g4 := Lib.hid (show m = 0 by omega)
            by_cases hq0 : 0 < q
            · have g5 : (0 : Int) < (q : Int) := by omega
              have g6 : ¬ q = 0 := by omega
              obtain rfl : true = N := by rw [← HN.out]; simp [hs0, g4.out, g6]
              go_wp2_with fail
              go_meet
              exact ⟨rfl, rfl⟩
            · have g5 : ¬ (0 : Int) < (q : Int) := by omega
              have g6 := Lib.hid (show q = 0 by omega)
              obtain rfl : false = N := by rw [← HN.out]; simp [hs0, g4.out, g6.out]
              go_wp2_with fail
              go_meet
              exact ⟨rfl, rfl⟩
        · have g1 : s.toList.isEmpty = false := by rw [hem]; exact decide_eq_false hs0
          obtain rfl : true = N := by rw [← HN.out]; simp [hs0]
          go_wp2_with fail
          go_meet
          exact ⟨rfl, rfl⟩
      | true =>
        obtain rfl : true = N := by rw [← HN.out]; simp []
        go_wp2_with fail
        go_meet
        exact ⟨rfl, rfl⟩
    · cases b with
      | false =>
        by_cases hs0 : s.size = 0
        · have g1 : s.toList.isEmpty = true := by rw [hem]; exact decide_eq_true hs0
          by_cases hm0 : 0 < m
          · have g3 : (0 : Int) < (m : Int) := by omega
            have g4 : ¬ m = 0 := by omega
            obtain rfl : true = N := by rw [← HN.out]; simp [hs0, g4]
            go_wp2_with fail
            go_meet
            exact ⟨rfl, rfl⟩
          · have g3 : ¬ (0 : Int) < (m : Int) := by omega
            have g4 := Lib.hid (show m = 0 by omega)
            by_cases hq0 : 0 < q
            · have g5 : (0 : Int) < (q : Int) := by omega
              have g6 : ¬ q = 0 := by omega
              obtain rfl : true = N := by rw [← HN.out]; simp [hs0, g4.out, g6]
              go_wp2_with fail
              go_meet
              exact ⟨rfl, rfl⟩
            · have g5 : ¬ (0 : Int) < (q : Int) := by omega
              have g6 := Lib.hid (show q = 0 by omega)
              obtain rfl : false = N := by rw [← HN.out]; simp [hs0, g4.out, g6.out]
              go_wp2_with fail
              go_meet
              exact ⟨rfl, rfl⟩
        · have g1 : s.toList.isEmpty = false := by rw [hem]; exact decide_eq_false hs0
          obtain rfl : true = N := by rw [← HN.out]; simp [hs0]
          go_wp2_with fail
          go_meet
          exact ⟨rfl, rfl⟩
      | true =>
        by_cases hs0 : s.size = 0
        · have g1 : s.toList.isEmpty = true := by rw [hem]; exact decide_eq_true hs0
          by_cases hm0 : 0 < m
          · have g3 : (0 : Int) < (m : Int) := by omega
            have g4 : ¬ m = 0 := by omega
            obtain rfl : true = N := by rw [← HN.out]; simp [hs0, g4]
            go_wp2_with fail
            go_meet
            exact ⟨rfl, rfl⟩
          · have g3 : ¬ (0 : Int) < (m : Int) := by omega
            have g4 := Lib.hid (show m = 0 by omega)
            by_cases hq0 : 0 < q
            · have g5 : (0 : Int) < (q : Int) := by omega
              have g6 : ¬ q = 0 := by omega
              obtain rfl : true = N := by rw [← HN.out]; simp [hs0, g4.out, g6]
              go_wp2_with fail
              go_meet
              exact ⟨rfl, rfl⟩
            · have g5 : ¬ (0 : Int) < (q : Int) := by omega
              have g6 := Lib.hid (show q = 0 by omega)
              obtain rfl : false = N := by rw [← HN.out]; simp [hs0, g4.out, g6.out]
              go_wp2_with fail
              go_meet
              exact ⟨rfl, rfl⟩
        · have g1 : s.toList.isEmpty = false := by rw [hem]; exact decide_eq_false hs0
          obtain rfl : true = N := by rw [← HN.out]; simp [hs0]
          go_wp2_with fail
          go_meet
          exact ⟨rfl, rfl⟩
    · cases b with
      | false =>
        by_cases hs0 : s.size = 0
        · have g1 : s.toList.isEmpty = true := by rw [hem]; exact decide_eq_true hs0
          by_cases hm0 : 0 < m
          · have g3 : (0 : Int) < (m : Int) := by omega
            have g4 : ¬ m = 0 := by omega
            obtain rfl : true = N := by rw [← HN.out]; simp [hs0, g4]
            go_wp2_with fail
            go_meet
            exact ⟨rfl, rfl⟩
          · have g3 : ¬ (0 : Int) < (m : Int) := by omega
            have g4 := Lib.hid (show m = 0 by omega)
            by_cases hq0 : 0 < q
            · have g5 : (0 : Int) < (q : Int) := by omega
              have g6 : ¬ q = 0 := by omega
              obtain rfl : true = N := by rw [← HN.out]; simp [hs0, g4.out, g6]
              go_wp2_with fail
              go_meet
              exact ⟨rfl, rfl⟩
            · have g5 : ¬ (0 : Int) < (q : Int) := by omega
              have g6 := Lib.hid (show q = 0 by omega)
              obtain rfl : false = N := by rw [← HN.out]; simp [hs0, g4.out, g6.out]
              go_wp2_with fail
              go_meet
              exact ⟨rfl, rfl⟩
        · have g1 : s.toList.isEmpty = false := by rw [hem]; exact decide_eq_false hs0
          by_cases hm0 : 0 < m
          · have g3 : (0 : Int) < (m : Int) := by omega
            have g4 : ¬ m = 0 := by omega
            obtain rfl : true = N := by rw [← HN.out]; simp [hs0, g4]
            go_wp2_with fail
            go_meet
            exact ⟨rfl, rfl⟩
          · have g3 : ¬ (0 : Int) < (m : Int) := by omega
            have g4 := Lib.hid (show m = 0 by omega)
            by_cases hq0 : 0 < q
            · have g5 : (0 : Int) < (q : Int) := by omega
              have g6 : ¬ q = 0 := by omega
              obtain rfl : true = N := by rw [← HN.out]; simp [hs0, g4.out, g6]
              go_wp2_with fail
              go_meet
              exact ⟨rfl, rfl⟩
            · have g5 : ¬ (0 : Int) < (q : Int) := by omega
              have g6 := Lib.hid (show q = 0 by omega)
              obtain rfl : false = N := by rw [← HN.out]; simp [hs0, g4.out, g6.out]
              go_wp2_with fail
              go_meet
              exact ⟨rfl, rfl⟩
      | true =>
        obtain rfl : true = N := by rw [← HN.out]; simp []
        go_wp2_with fail
        go_meet
        exact ⟨rfl, rfl⟩
    · cases b with
      | false =>
        by_cases hs0 : s.size = 0
        · have g1 : s.toList.isEmpty = true := by rw [hem]; exact decide_eq_true hs0
          by_cases hm0 : 0 < m
          · have g3 : (0 : Int) < (m : Int) := by omega
            have g4 : ¬ m = 0 := by omega
            obtain rfl : true = N := by rw [← HN.out]; simp [hs0, g4]
            go_wp2_with fail
            go_meet
            exact ⟨rfl, rfl⟩
          · have g3 : ¬ (0 : Int) < (m : Int) := by omega
            have g4 := Lib.hid (show m = 0 by omega)
            by_cases hq0 : 0 < q
            · have g5 : (0 : Int) < (q : Int) := by omega
              have g6 : ¬ q = 0 := by omega
              obtain rfl : true = N := by rw [← HN.out]; simp [hs0, g4.out, g6]
              go_wp2_with fail
              go_meet
              exact ⟨rfl, rfl⟩
            · have g5 : ¬ (0 : Int) < (q : Int) := by omega
              have g6 := Lib.hid (show q = 0 by omega)
              obtain rfl : false = N := by rw [← HN.out]; simp [hs0, g4.out, g6.out]
              go_wp2_with fail
              go_meet
              exact ⟨rfl, rfl⟩
        · have g1 : s.toList.isEmpty = false := by rw [hem]; exact decide_eq_false hs0
          by_cases hm0 : 0 < m
          · have g3 : (0 : Int) < (m : Int) := by omega
            have g4 : ¬ m = 0 := by omega
            obtain rfl : true = N := by rw [← HN.out]; simp [hs0, g4]
            go_wp2_with fail
            go_meet
            exact ⟨rfl, rfl⟩
          · have g3 : ¬ (0 : Int) < (m : Int) := by omega
            have g4 := Lib.hid (show m = 0 by omega)
            by_cases hq0 : 0 < q
            · have g5 : (0 : Int) < (q : Int) := by omega
              have g6 : ¬ q = 0 := by omega
              obtain rfl : true = N := by rw [← HN.out]; simp [hs0, g4.out, g6]
              go_wp2_with fail
              go_meet
              exact ⟨rfl, rfl⟩
            · have g5 : ¬ (0 : Int) < (q : Int) := by omega
              have g6 := Lib.hid (show q = 0 by omega)
              obtain rfl : false = N := by rw [← HN.out]; simp [hs0, g4.out, g6.out]
              go_wp2_with fail
              go_meet
              exact ⟨rfl, rfl⟩
      | true =>
        obtain rfl : true = N := by rw [← HN.out]; simp []
        go_wp2_with fail
        go_meet
        exact ⟨rfl, rfl⟩
    · cases b with
      | false =>
        by_cases hs0 : s.size = 0
        · have g1 : s.toList.isEmpty = true := by rw [hem]; exact decide_eq_true hs0
          by_cases hm0 : 0 < m
          · have g3 : (0 : Int) < (m : Int) := by omega
            have g4 : ¬ m = 0 := by omega
            by_cases hq0 : 0 < q
            · have g5 : (0 : Int) < (q : Int) := by omega
              have g6 : ¬ q = 0 := by omega
              obtain rfl : true = N := by rw [← HN.out]; simp [hs0, g6]
              go_wp2_with fail
              go_meet
              exact ⟨rfl, rfl⟩
            · have g5 : ¬ (0 : Int) < (q : Int) := by omega
              have g6 := Lib.hid (show q = 0 by omega)
              obtain rfl : false = N := by rw [← HN.out]; simp [hs0, g6.out]
              go_wp2_with fail
              go_meet
              exact ⟨rfl, rfl⟩
          · have g3 : ¬ (0 : Int) < (m : Int) := by omega
            have g4 := Lib.hid (show m = 0 by omega)
            by_cases hq0 : 0 < q
            · have g5 : (0 : Int) < (q : Int) := by omega
              have g6 : ¬ q = 0 := by omega
              obtain rfl : true = N := by rw [← HN.out]; simp [hs0, g4.out, g6]
              go_wp2_with fail
              go_meet
              exact ⟨rfl, rfl⟩
            · have g5 : ¬ (0 : Int) < (q : Int) := by omega
              have g6 := Lib.hid (show q = 0 by omega)
              obtain rfl : false = N := by rw [← HN.out]; simp [hs0, g4.out, g6.out]
              go_wp2_with fail
              go_meet
              exact ⟨rfl, rfl⟩
        · have g1 : s.toList.isEmpty = false := by rw [hem]; exact decide_eq_false hs0
          obtain rfl : true = N := by rw [← HN.out]; simp [hs0]
          go_wp2_with fail
          go_meet
          exact ⟨rfl, rfl⟩
      | true =>
        obtain rfl : true = N := by rw [← HN.out]; simp []
        go_wp2_with fail
        go_meet
        exact ⟨rfl, rfl⟩
    · cases b with
      | false =>
        by_cases hs0 : s.size = 0
        · have g1 : s.toList.isEmpty = true := by rw [hem]; exact decide_eq_true hs0
          by_cases hm0 : 0 < m
          · have g3 : (0 : Int) < (m : Int) := by omega
            have g4 : ¬ m = 0 := by omega
            by_cases hq0 : 0 < q
            · have g5 : (0 : Int) < (q : Int) := by omega
              obtain rfl : false = N := by rw [← HN.out]; simp [hs0]
              go_wp2_with fail
              go_meet
              exact ⟨rfl, rfl⟩
            · have g5 : ¬ (0 : Int) < (q : Int) := by omega
              obtain rfl : false = N := by rw [← HN.out]; simp [hs0]
              go_wp2_with fail
              go_meet
              exact ⟨rfl, rfl⟩
          · have g3 : ¬ (0 : Int) < (m : Int) := by omega
            have g4 := Lib.hid (show m = 0 by omega)
            by_cases hq0 : 0 < q
            · have g5 : (0 : Int) < (q : Int) := by omega
              obtain rfl : false = N := by rw [← HN.out]; simp [hs0, g4.out]
              go_wp2_with fail
              go_meet
              exact ⟨rfl, rfl⟩
            · have g5 : ¬ (0 : Int) < (q : Int) := by omega
              obtain rfl : false = N := by rw [← HN.out]; simp [hs0, g4.out]
              go_wp2_with fail
              go_meet
              exact ⟨rfl, rfl⟩
        · have g1 : s.toList.isEmpty = false := by rw [hem]; exact decide_eq_false hs0
          obtain rfl : true = N := by rw [← HN.out]; simp [hs0]
          go_wp2_with fail
          go_meet
          exact ⟨rfl, rfl⟩
      | true =>
        obtain rfl : true = N := by rw [← HN.out]; simp []
        go_wp2_with fail
        go_meet
        exact ⟨rfl, rfl⟩
  case rest =>
    obtain ⟨rfl, rfl⟩ := hcut
    clear c1 c2
    cases N with
    | true =>
      obtain rfl : false = Z := by rw [HZN.out]; rfl
      go_wp2_with fail
      go_ret
      exact ⟨rfl, B0.out⟩
    | false =>
      have hz := HZN.out
      by_cases hbad : k = 5 ∧ ¬ q = m
      · obtain ⟨rfl, hqm⟩ := hbad
        have g7 : ¬ (q : Int) = (m : Int) := by omega
        obtain rfl : false = Z := by rw [hz, decide_eq_false hqm]; rfl
        clear hz
        go_wp2_with fail
        go_ret
        exact ⟨rfl, B0.out⟩
      · have HZ2 : Hid (l.all may = Z) := Lib.hid (by
          rw [hz]
          by_cases h5 : k = 5
          · rw [decide_eq_true (show q = m from Decidable.byContradiction fun g => hbad ⟨h5, g⟩)]; simp
          · rw [decide_eq_false h5]; simp)
        clear hz
        go_upto_region 3 with fail
        go_cut [69] from 58 to 69 (fun sx wx => sx = .bool false ∧ wx = wc)
        case first =>
          by_cases h5 : k = 5
          · obtain rfl : q = m := Decidable.byContradiction fun g => hbad ⟨h5, g⟩
            subst h5
            go_wp2_with fail
            go_meet
            exact ⟨rfl, rfl⟩
          · go_wp2_with fail
            go_meet
            exact ⟨rfl, rfl⟩
        case rest =>
          obtain ⟨rfl, rfl⟩ := hcut
          clear c0 c4 c3
          go_wp2_with fail
          go_loopw [3] (fun iv wr => ∃ i : Nat, iv = .int .i64 i ∧ i ≤ m ∧ Hid ((l.drop i).all may = Z) ∧ Hid (Below wc.heap.size wc wr)) (fun iv _ => m - (intOf iv).toNat)
          case atStart => exact ⟨0, rfl, by omega, HZ2, Lib.hid (Below.refl _ _)⟩
          case round =>
            obtain ⟨i, rfl, hi, hZi, hB⟩ := hrel
            have c3 := (P0.out.below hB.out HLT.out).c3
            have hBW := extV B0.out hB.out
            have B2 := Lib.hid hBW
            by_cases him : i < m
            · have i1 : (i : Int) < (m : Int) := by omega
              obtain ⟨g, off, t, A', m', c', B', q', d', hA, ht, k0, k1, k2, k3, k4, hvt⟩ := (HL.out.below hBW).look him
              subst hA
              have CT := Lib.hid (IH.out t (List.mem_of_getElem? ht) _ wr hvt)
              have hst := hZi.out
              rw [all_step ht] at hst
              obtain ⟨Y, hY⟩ : ∃ Y, may t = Y := ⟨_, rfl⟩
              rw [hY] at CT hst
              have HST := Lib.hid hst
              clear ht hvt hY hst hBW
              go_wp2_with fail
              refine CT.out.mono ?_
              rintro e w1 ⟨rfl, hb1⟩
              have B1 := Lib.hid (extV hB.out hb1)
              have B3 := Lib.hid (extV B0.out B1.out)
              clear hb1
              cases Y with
              | false =>
                obtain rfl : false = Z := HST.out
                go_wp2_with fail
                go_ret
                exact ⟨rfl, B3.out⟩
              | true =>
                have HZ3 : Hid ((l.drop (i + 1)).all may = Z) := Lib.hid HST.out
                go_wp2_with fail
                exact ⟨⟨i + 1, by go_num, by omega, HZ3, B1⟩, by simp [intOf]; omega⟩
            · obtain rfl : i = m := by omega
              obtain rfl : true = Z := by have h := hZi.out; rw [List.drop_of_length_le (by omega)] at h; exact h
              go_wp2
              go_ret
              exact ⟨rfl, B2.out⟩
theorem bx_at {w : World} {o : Obj} : w.heap.size < (w.alloc o).heap.size := by simp
/-- what Check tells -/
def chk (t : Tr) : Int := if may t = false then 2 else if 128 < dep t then 111 else 0
set_option maxRecDepth 100000 in
set_option maxHeartbeats 4000000 in
theorem rcheckV (t : Tr) (v : Value) (w : World) (hv : Vl w v t) (hd : dep t ≤ 1000000) :
    Calls Tryd.prog 17 #[v] w fun e w' => e = .returned (.int .i64 (chk t)) ∧ Below w.heap.size w w' := by
  obtain ⟨A, m, c, B, q, d, rfl, hl, hn, hk, hs⟩ := hv.open_
  have MY := Lib.hid (fun (w' : World) (h : Below w.heap.size w w') => may_any t _ w' (Vl.up h t hv))
  have DP := Lib.hid (fun (w' : World) (h : Below w.heap.size w w') => rdepth_any t _ w' (Vl.up h t hv) hd)
  obtain ⟨k, hk1⟩ : ∃ k, t.kind = k := ⟨_, rfl⟩
  obtain ⟨b, hb1⟩ : ∃ b, t.isB = b := ⟨_, rfl⟩
  obtain ⟨s, hs1⟩ : ∃ s, t.text = s := ⟨_, rfl⟩
  rw [hk1, hb1, hs1] at MY DP ⊢
  have P0 := Lib.hid (show Bx (w.alloc (.cells #[.int .i64 k, .bool b, .string s, .slice A m c, .slice B q d] 25)) w.heap.size (.int .i64 k) (.bool b) (.string s) (.slice A m c) (.slice B q d) from heap_alloc_new w _)
  have B0 := Lib.hid (below_allocV w (.cells #[.int .i64 k, .bool b, .string s, .slice A m c, .slice B q d] 25))
  obtain ⟨Q, hQ⟩ : ∃ Q, w.heap.size = Q := ⟨_, rfl⟩
  obtain ⟨W0, hW0⟩ : ∃ W0, w.alloc (.cells #[.int .i64 k, .bool b, .string s, .slice A m c, .slice B q d] 25) = W0 := ⟨_, rfl⟩
  rw [hW0] at P0 B0
  rw [hQ] at P0
  have HQ := Lib.hid hQ
  have HW0 := Lib.hid hW0
  have HLT := Lib.hid P0.out.lt
  have c0 := P0.out.c0
  have c1 := P0.out.c1
  have c2 := P0.out.c2
  have c3 := P0.out.c3
  have c4 := P0.out.c4
  obtain ⟨Z, hZ⟩ : ∃ Z, chk t = Z := ⟨_, rfl⟩
  rw [hZ]
  have HZ := Lib.hid hZ
  obtain ⟨D, hD⟩ : ∃ D, dep t = D := ⟨_, rfl⟩
  rw [hD] at DP
  have HD := Lib.hid hD
  clear hv hl hn hk hs hk1 hb1 hs1 hQ hW0 hZ hD hd
  go_enter Tryd.func17, Tryd.ntmps17
  go_upto_region 1 with fail
  rw [HW0.out, HQ.out]
  go_wp2_with fail
  refine (MY.out W0 B0.out).mono ?_
  rintro e w1 ⟨rfl, hb1⟩
  have P1 := P0.out.below hb1 HLT.out
  have B1 := Lib.hid (extV B0.out hb1)
  clear hb1 c0 c1 c2 c3 c4
  have c0 := P1.c0
  have c1 := P1.c1
  have c2 := P1.c2
  have c3 := P1.c3
  have c4 := P1.c4
  clear P1
  cases hm : may t with
  | false =>
    obtain rfl : (2 : Int) = Z := by rw [← HZ.out]; unfold chk; rw [if_pos hm]
    clear hm
    go_wp2_with fail
    go_ret
    exact ⟨rfl, B1.out⟩
  | true =>
    have hz := HZ.out
    unfold chk at hz
    rw [if_neg (by rw [hm]; decide), HD.out] at hz
    have HZ2 := Lib.hid hz
    clear hm hz
    go_wp2_with fail
    refine (DP.out w1 B1.out).mono ?_
    rintro e w2 ⟨rfl, hb2⟩
    have B2 := Lib.hid (extV B1.out hb2)
    clear hb2
    by_cases h128 : 128 < D
    · have g1 : (128 : Int) < (D : Int) := by omega
      obtain rfl : (111 : Int) = Z := by rw [← HZ2.out, if_pos h128]
      go_wp2_with fail
      go_ret
      exact ⟨rfl, B2.out⟩
    · have g1 : ¬ (128 : Int) < (D : Int) := by omega
      obtain rfl : (0 : Int) = Z := by rw [← HZ2.out, if_neg h128]
      go_wp2_with fail
      go_ret
      exact ⟨rfl, B2.out⟩
end Vt
end Go.Proofs.YtlgeibaejeiemaaDoor
