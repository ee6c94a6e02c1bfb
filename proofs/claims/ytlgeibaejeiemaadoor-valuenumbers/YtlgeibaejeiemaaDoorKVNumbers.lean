/-
  The walk of ValueNumbers.
-/
import Derived.Test.YtlgeibaejeiemaaDoorVy
namespace Go.Proofs.YtlgeibaejeiemaaDoor
set_option linter.unusedVariables false
set_option linter.unusedSimpArgs false
open Go.RowKit
open Wd We Vt

set_option maxRecDepth 100000 in
set_option maxHeartbeats 16000000 in
theorem walk_ValueNumbers (a0 : Int) (a1 : Int) (w : World) (w0 : (Lit.int .i64 a0).wf = true) (w1 : (Lit.int .i64 a1).wf = true) (tab : It.Tab w) :
    Calls Tryd.prog 11 #[.int .i64 a0, .int .i64 a1] w fun e w' => e = .returned (.bool true) ∧ Below w.heap.size w w' := by
  have hr0 := i64_of w0
  have hr1 := i64_of w1
  have TB := Lib.hid (fun (w' : World) (h : Below w.heap.size w w') => tab.below h)
  have C3 := Lib.hid (fun (w' : World) (h : Below w.heap.size w w') => number_any a0 (by omega) (by omega) w' (tab.below h))
  have C4 := Lib.hid (fun (w' : World) (h : Below w.heap.size w w') => number_any a1 (by omega) (by omega) w' (tab.below h))
  have hv0 : ∀ w', Vl w' (.agg #[.int .i64 2, .bool false, .string (numT a0), .slice none 0 0, .slice none 0 0]) (num a0) := fun w' => vl_num w' (by omega) (by omega)
  have hv1 : ∀ w', Vl w' (.agg #[.int .i64 2, .bool false, .string (numT a1), .slice none 0 0, .slice none 0 0]) (num a1) := fun w' => vl_num w' (by omega) (by omega)
  obtain ⟨sa, hsa⟩ : ∃ s, numT a0 = s := ⟨_, rfl⟩
  obtain ⟨sb, hsb⟩ : ∃ s, numT a1 = s := ⟨_, rfl⟩
  rw [hsa] at C3 hv0
  rw [hsb] at C4 hv1
  have HSA := Lib.hid hsa
  have HV0 := Lib.hid hv0
  have HV1 := Lib.hid hv1
  clear hsa hsb hv0 hv1 tab w0 w1
  go_enter Tryd.func11, Tryd.ntmps11
  go_wp2_with fail
  refine (C3.out w (Below.refl _ _)).mono ?_
  rintro e w3 ⟨rfl, hb3⟩
  have B3 := Lib.hid hb3
  clear hb3
  go_wp2_with fail
  refine (C4.out w3 B3.out).mono ?_
  rintro e w4 ⟨rfl, hb4⟩
  have B4 := Lib.hid (extV B3.out hb4)
  clear hb4
  obtain ⟨R1, hR1⟩ : ∃ R, w4.heap.size = R := ⟨_, rfl⟩
  obtain ⟨R2, hR2⟩ : ∃ R, R1 + 1 = R := ⟨_, rfl⟩
  have hneA : ¬ R1 = R2 := by omega
  have hneB : ¬ R2 = R1 := by omega
  obtain ⟨UA, hUA⟩ : ∃ U, w4.alloc (.cells #[.int .i64 0, .bool false, .string ⟨#[]⟩, .slice none 0 0, .slice none 0 0] 25) = U := ⟨_, rfl⟩
  have hsUA : UA.heap.size = R2 := by rw [← hUA, World.size_alloc, hR1, hR2]
  obtain ⟨UB, hUB⟩ : ∃ U, UA.alloc (.cells #[.int .i64 0, .bool false, .string ⟨#[]⟩, .slice none 0 0, .slice none 0 0] 25) = U := ⟨_, rfl⟩
  obtain ⟨nb1, nb2, nb3, nb4, nb5, nb6, nb7⟩ := newboxes hR1 hR2 hUA hUB (.int .i64 2) (.bool false) (.string sa) (.slice none 0 0) (.slice none 0 0) (.int .i64 2) (.bool false) (.string sb) (.slice none 0 0) (.slice none 0 0)
  have hqq : put5 UB R1 (.int .i64 2) (.bool false) (.string sa) (.slice none 0 0) (.slice none 0 0) = ((((UB.setCell ⟨R1, 0, none⟩ (.int .i64 2)).setCell ⟨R1, 1, none⟩ (.bool false)).setCell ⟨R1, 2, none⟩ (.string sa)).setCell ⟨R1, 3, none⟩ (.slice none 0 0)).setCell ⟨R1, 4, none⟩ (.slice none 0 0) := rfl
  rw [hqq] at nb3
  have e10 := nb1.c0; have e11 := nb1.c1; have e12 := nb1.c2; have e13 := nb1.c3; have e14 := nb1.c4
  have e20 := nb2.c0; have e21 := nb2.c1; have e22 := nb2.c2; have e23 := nb2.c3; have e24 := nb2.c4
  have e30 := nb3.c0; have e31 := nb3.c1; have e32 := nb3.c2; have e33 := nb3.c3; have e34 := nb3.c4
  have f10 := nb1.fz 0; have f20 := nb2.fz 0; have f30 := nb3.fz 0; have f11 := nb1.fz 1; have f21 := nb2.fz 1; have f31 := nb3.fz 1; have f12 := nb1.fz 2; have f22 := nb2.fz 2; have f32 := nb3.fz 2; have f13 := nb1.fz 3; have f23 := nb2.fz 3; have f33 := nb3.fz 3; have f14 := nb1.fz 4; have f24 := nb2.fz 4; have f34 := nb3.fz 4
  obtain ⟨VB, hVB⟩ : ∃ V, put5 (put5 UB R1 (.int .i64 2) (.bool false) (.string sa) (.slice none 0 0) (.slice none 0 0)) R2 (.int .i64 2) (.bool false) (.string sb) (.slice none 0 0) (.slice none 0 0) = V := ⟨_, rfl⟩
  rw [hVB] at nb4 nb5 nb6 nb7
  have HVB := Lib.hid hVB
  have N1 := Lib.hid nb4
  have N2 := Lib.hid nb5
  have NBB := Lib.hid nb6
  have NSB := Lib.hid nb7
  have HR1 := Lib.hid hR1
  have HR2 := Lib.hid hR2
  clear nb1 nb2 nb3 nb4 nb5 nb6 nb7 hVB hqq hR2
  go_upto_region 2 with fail
  rw [show (((((((((UB.setCell ⟨R1, 0, none⟩ (.int .i64 2)).setCell ⟨R1, 1, none⟩ (.bool false)).setCell ⟨R1, 2, none⟩ (.string sa)).setCell ⟨R1, 3, none⟩ (.slice none 0 0)).setCell ⟨R1, 4, none⟩ (.slice none 0 0)).setCell ⟨R2, 0, none⟩ (.int .i64 2)).setCell ⟨R2, 1, none⟩ (.bool false)).setCell ⟨R2, 2, none⟩ (.string sb)).setCell ⟨R2, 3, none⟩ (.slice none 0 0)).setCell ⟨R2, 4, none⟩ (.slice none 0 0) = VB from HVB.out]
  clear hUA hUB hneA hneB
  clear e10 e11 e12 e13 e14 e20 e21 e22 e23 e24 e30 e31 e32 e33 e34 f10 f11 f12 f13 f14 f20 f21 f22 f23 f24 f30 f31 f32 f33 f34
  have BB := Lib.hid (extV B4.out NBB.out)
  have e10 := N1.out.c0; have e20 := N2.out.c0; have e11 := N1.out.c1; have e21 := N2.out.c1; have e12 := N1.out.c2; have e22 := N2.out.c2; have e13 := N1.out.c3; have e23 := N2.out.c3; have e14 := N1.out.c4; have e24 := N2.out.c4
  by_cases hneg : a0 < 0
  · obtain ⟨L, hL⟩ : ∃ L, Dm.decs a0.natAbs = L := ⟨_, rfl⟩
    obtain rfl : Dm.bs (45 :: L) = sa := by rw [← HSA.out, ← hL]; unfold numT; rw [if_pos hneg]
    have HDS : Hid (∀ x ∈ L, 48 ≤ x ∧ x ≤ 57) := Lib.hid (by rw [← hL]; exact Dm.ds_decs _)
    have HFI : Hid (L.length = 1 ∨ L.head? ≠ some 48) := Lib.hid (by rw [← hL]; exact decs_first _)
    have HPO : Hid (0 < L.length) := Lib.hid (by rw [← hL]; exact List.length_pos_iff.2 (Dm.decs_ne _))
    have HLE : L.length ≤ 19 := by rw [← hL]; exact Dm.decs_length_le (by omega)
    have hsz1 : (Dm.bs L).size = L.length := Dm.bs_size L
    have HBY : Hid (∀ (q : Nat) (x : Int), L[q]? = some x → ∀ h : q < (Dm.bs L).size, (((Dm.bs L)[q]'h).toNat : Int) = x) := Lib.hid (fun q x hx h => byte_at hx (by have := HDS.out x (List.mem_of_getElem? hx); omega) (by have := HDS.out x (List.mem_of_getElem? hx); omega) h)
    clear hL
    have hlen : (Dm.bs (45 :: L)).size = L.length + 1 := by rw [Dm.bs_size]; rfl
    have hcut := cut_one L (L.length + 1) rfl
    have hby0 := byte_at (l := 45 :: L) (q := 0) (x := 45) rfl (by omega) (by omega) (by rw [hlen]; omega)
    have hz1 : ((L.length : Int) + 1 == 0) = false := beq_eq_false_iff_ne.2 (by omega)
    obtain ⟨s0, hs0⟩ : ∃ s, Dm.bs (45 :: L) = s := ⟨_, rfl⟩
    rw [hs0] at hlen hcut HV0 e12 N1 ⊢
    have hlt0 : 0 < s0.size := by omega
    have hby1 : ((s0[0]'hlt0).toNat : Int) = 45 := by subst hs0; exact hby0
    clear hby0 hs0 HSA
    go_upto_region 7 with fail
    obtain ⟨S1, hS1⟩ : ∃ s, Dm.bs L = s := ⟨_, rfl⟩
    rw [hS1] at hsz1 HBY ⊢
    have HS1 := Lib.hid hS1
    clear hS1
    go_wp2_with fail
    go_loopw [8] (fun iv wr => ∃ i : Nat, iv = .int .i64 i ∧ i ≤ L.length ∧ wr = VB) (fun iv _ => L.length - (intOf iv).toNat)
    case atStart => exact ⟨0, rfl, by omega, rfl⟩
    case round =>
      obtain ⟨i, rfl, hi, rfl⟩ := hrel
      by_cases him : i < L.length
      · have i1 : (i : Int) < (L.length : Int) := by omega
        obtain ⟨x, hx⟩ : ∃ x, L[i]? = some x := ⟨_, List.getElem?_eq_getElem him⟩
        have hds := HDS.out x (List.mem_of_getElem? hx)
        have hby := HBY.out i x hx (by omega)
        have hx1 : ¬ x < 48 := by omega
        have hx2 : ¬ 57 < x := by omega
        by_cases hi0 : i = 0
        · subst hi0
          by_cases hx48 : x = 48
          · have hl1 : ¬ (1 : Int) < (L.length : Int) := by
              have := HFI.out
              rcases this with h | h
              · omega
              · exact absurd (by rw [List.head?_eq_getElem?, hx, hx48]) h
            subst hx48
            clear hx hx1 hx2
            go_wp2_with fail
            exact ⟨⟨1, by go_num, by omega, by first | rfl | trivial⟩, by simp [intOf]; omega⟩
          · have hx4 : (x == 48) = false := beq_eq_false_iff_ne.2 hx48
            clear hx
            go_wp2_with fail
            exact ⟨⟨1, by go_num, by omega, by first | rfl | trivial⟩, by simp [intOf]; omega⟩
        · have hi1 : ¬ (i : Int) = 0 := by omega
          have hi2 : ((i : Int) == 0) = false := beq_eq_false_iff_ne.2 hi1
          clear hx
          go_wp2_with fail
          exact ⟨⟨i + 1, by go_num, by omega, by first | rfl | trivial⟩, by simp [intOf]; omega⟩
      · obtain hie : i = L.length := by omega
        subst hie
        have hlp : (0 : Int) < (L.length : Int) := by have := HPO.out; omega
        go_wp2_with fail
        refine (equal_any (num a0) (num a1) _ _ wr (HV0.out wr) (HV1.out wr)).mono ?_
        rintro e w8 ⟨rfl, hb8⟩
        rw [alk_num]
        have BA := Lib.hid (extV BB.out hb8)
        have n1 := N1.out.below hb8 N1.out.lt
        obtain ⟨ab, hab⟩ : ∃ b, decide (a0 = a1) = b := ⟨_, rfl⟩
        have hab2 : (a0 == a1) = ab := by rw [← hab]; cases hd : decide (a0 = a1) with
          | true => exact beq_iff_eq.2 (of_decide_eq_true hd)
          | false => exact beq_eq_false_iff_ne.2 (of_decide_eq_false hd)
        rw [hab]
        clear hb8 hab e10 e11 e12 e13 e14 e20 e21 e22 e23 e24
        have e10 := n1.c0; have e11 := n1.c1; have e12 := n1.c2; have e13 := n1.c3; have e14 := n1.c4
        go_wp2_with fail
        refine (check_any (num a0) _ w8 (HV0.out w8) (by unfold num; rw [dep_plain]; omega)).mono ?_
        rintro e w9 ⟨rfl, hb9⟩
        rw [chk_num]
        have BC := Lib.hid (extV BA.out hb9)
        clear hb9 n1
        go_wp2_with fail
        refine (awake_any _ (TB.out _ BC.out)).mono ?_
        rintro e wz ⟨rfl, hbz⟩
        have BZ := Lib.hid (extV BC.out hbz)
        clear hbz
        go_wp2_with fail
        go_ret
        exact ⟨rfl, BZ.out⟩
  · obtain ⟨L, hL⟩ : ∃ L, Dm.decs a0.natAbs = L := ⟨_, rfl⟩
    obtain rfl : Dm.bs L = sa := by rw [← HSA.out, ← hL]; unfold numT; rw [if_neg hneg]
    have HDS : Hid (∀ x ∈ L, 48 ≤ x ∧ x ≤ 57) := Lib.hid (by rw [← hL]; exact Dm.ds_decs _)
    have HFI : Hid (L.length = 1 ∨ L.head? ≠ some 48) := Lib.hid (by rw [← hL]; exact decs_first _)
    have HPO : Hid (0 < L.length) := Lib.hid (by rw [← hL]; exact List.length_pos_iff.2 (Dm.decs_ne _))
    have HLE : L.length ≤ 19 := by rw [← hL]; exact Dm.decs_length_le (by omega)
    have hsz1 : (Dm.bs L).size = L.length := Dm.bs_size L
    have HBY : Hid (∀ (q : Nat) (x : Int), L[q]? = some x → ∀ h : q < (Dm.bs L).size, (((Dm.bs L)[q]'h).toNat : Int) = x) := Lib.hid (fun q x hx h => byte_at hx (by have := HDS.out x (List.mem_of_getElem? hx); omega) (by have := HDS.out x (List.mem_of_getElem? hx); omega) h)
    clear hL HSA
    go_upto_region 7 with fail
    obtain ⟨S1, hS1⟩ : ∃ s, Dm.bs L = s := ⟨_, rfl⟩
    rw [hS1] at hsz1 HBY HV0 e12 N1 ⊢
    have HS1 := Lib.hid hS1
    clear hS1
    go_wp2_with fail
    go_loopw [8] (fun iv wr => ∃ i : Nat, iv = .int .i64 i ∧ i ≤ L.length ∧ wr = VB) (fun iv _ => L.length - (intOf iv).toNat)
    case atStart => exact ⟨0, rfl, by omega, rfl⟩
    case round =>
      obtain ⟨i, rfl, hi, rfl⟩ := hrel
      by_cases him : i < L.length
      · have i1 : (i : Int) < (L.length : Int) := by omega
        obtain ⟨x, hx⟩ : ∃ x, L[i]? = some x := ⟨_, List.getElem?_eq_getElem him⟩
        have hds := HDS.out x (List.mem_of_getElem? hx)
        have hby := HBY.out i x hx (by omega)
        have hx1 : ¬ x < 48 := by omega
        have hx2 : ¬ 57 < x := by omega
        by_cases hi0 : i = 0
        · subst hi0
          by_cases hx48 : x = 48
          · have hl1 : ¬ (1 : Int) < (L.length : Int) := by
              have := HFI.out
              rcases this with h | h
              · omega
              · exact absurd (by rw [List.head?_eq_getElem?, hx, hx48]) h
            subst hx48
            clear hx hx1 hx2
            go_wp2_with fail
            exact ⟨⟨1, by go_num, by omega, by first | rfl | trivial⟩, by simp [intOf]; omega⟩
          · have hx4 : (x == 48) = false := beq_eq_false_iff_ne.2 hx48
            clear hx
            go_wp2_with fail
            exact ⟨⟨1, by go_num, by omega, by first | rfl | trivial⟩, by simp [intOf]; omega⟩
        · have hi1 : ¬ (i : Int) = 0 := by omega
          have hi2 : ((i : Int) == 0) = false := beq_eq_false_iff_ne.2 hi1
          clear hx
          go_wp2_with fail
          exact ⟨⟨i + 1, by go_num, by omega, by first | rfl | trivial⟩, by simp [intOf]; omega⟩
      · obtain hie : i = L.length := by omega
        subst hie
        have hlp : (0 : Int) < (L.length : Int) := by have := HPO.out; omega
        go_wp2_with fail
        refine (equal_any (num a0) (num a1) _ _ wr (HV0.out wr) (HV1.out wr)).mono ?_
        rintro e w8 ⟨rfl, hb8⟩
        rw [alk_num]
        have BA := Lib.hid (extV BB.out hb8)
        have n1 := N1.out.below hb8 N1.out.lt
        obtain ⟨ab, hab⟩ : ∃ b, decide (a0 = a1) = b := ⟨_, rfl⟩
        have hab2 : (a0 == a1) = ab := by rw [← hab]; cases hd : decide (a0 = a1) with
          | true => exact beq_iff_eq.2 (of_decide_eq_true hd)
          | false => exact beq_eq_false_iff_ne.2 (of_decide_eq_false hd)
        rw [hab]
        clear hb8 hab e10 e11 e12 e13 e14 e20 e21 e22 e23 e24
        have e10 := n1.c0; have e11 := n1.c1; have e12 := n1.c2; have e13 := n1.c3; have e14 := n1.c4
        go_wp2_with fail
        refine (check_any (num a0) _ w8 (HV0.out w8) (by unfold num; rw [dep_plain]; omega)).mono ?_
        rintro e w9 ⟨rfl, hb9⟩
        rw [chk_num]
        have BC := Lib.hid (extV BA.out hb9)
        clear hb9 n1
        go_wp2_with fail
        refine (awake_any _ (TB.out _ BC.out)).mono ?_
        rintro e wz ⟨rfl, hbz⟩
        have BZ := Lib.hid (extV BC.out hbz)
        clear hbz
        go_wp2_with fail
        go_ret
        exact ⟨rfl, BZ.out⟩
end Go.Proofs.YtlgeibaejeiemaaDoor
