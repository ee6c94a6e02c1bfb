/-
  The walk of FrameNames.
-/
import Derived.Test.YtigiiofiajhnlaaGreatDoorKFReads
import Derived.Test.YtigiiofiajhnlaaGreatDoorKFAll
import Derived.Test.YtigiiofiajhnlaaGreatDoorKFMakes
import Derived.Test.YtigiiofiajhnlaaGreatDoorGc
import Derived.Test.YtigiiofiajhnlaaGreatDoorWh
import Derived.Deep.DeepCutAuto
namespace Go.Proofs.YtigiiofiajhnlaaGreatDoor
set_option linter.unusedVariables false
set_option linter.unusedSimpArgs false
open Go.RowKit Go.ChangeShapes Go.WideShapes
open Wd We Dm Dc Dd Hm Hb He Hg Hj Fm Fa

/-- two operations may come up, each makes a value -/
theorem Wd.any_pair {P : Program} {md : Region.Mode} {ops : Array Oper} {Q : Exit → Act → World → Prop} {S : World → Prop} {held : List Nat} (i j : Nat) (di dj : Tmp) (vi vj : Value) (wi wj : World) {oi oj : Oper} {f : Nat} {L : Array Bool} {a : Act} {w : World} (hr : Region.ready md ops L = [i, j])
    (hoi : ops[i]? = some oi) (hdi : oi.dst = some di) (hwi : Region.wanted oi (yielded ops a.tmps) = true) (hri : (execOp a.eval oi).run P w = .ok (.value vi) wi) (hSi : S wi)
    (hoj : ops[j]? = some oj) (hdj : oj.dst = some dj) (hwj : Region.wanted oj (yielded ops a.tmps) = true) (hrj : (execOp a.eval oj).run P w = .ok (.value vj) wj) (hSj : S wj)
    (h1 : anyG P md ops Q S held f (L.setIfInBounds i true) (a.put (some di) vi) wi) (h2 : anyG P md ops Q S held f (L.setIfInBounds j true) (a.put (some dj) vj) wj) : anyG P md ops Q S held (f + 1) L a w := by
  refine ⟨fun h0 => (by rw [hr] at h0; cases h0), fun t ht => ?_⟩
  rw [hr] at ht
  have ht' : t = i ∨ t = j := by simpa using ht
  rcases ht' with rfl | rfl
  · refine wpOp_step hoi fun K' hK => ?_
    rw [if_pos hwi]
    unfold Oper.wp
    rw [hri, Oper.upon_value, hdi]
    exact hK _ _ ⟨.inr hSi, h1⟩
  · refine wpOp_step hoj fun K' hK => ?_
    rw [if_pos hwj]
    unfold Oper.wp
    rw [hrj, Oper.upon_value, hdj]
    exact hK _ _ ⟨.inr hSj, h2⟩

theorem Fa.rdr_new (w : World) (n : Nat) (hn : n = w.heap.size) : Rdr (w.alloc (.cells #[.int .i64 0, .slice none 0 0] 31)) n 0 (.slice none 0 0) := by
  subst hn; exact heap_alloc_new w _
/-- FrameReads of bytes in two pieces, and of them whole -/
theorem Fa.three_reads (W : World) {A : Option Addr} {n c : Nat} {l : List Int} (s : Sl .u8 W A n c l) (ib : IsB l) (k : Nat) (hk : k ≤ n) (hn : n ≤ 100000) {B : Option Addr} {m d : Nat} (s2 : Sl .u8 W B m d (l.drop k)) (env : Env W) :
    Calls Tryz.prog 8 #[.slice (some ⟨W.heap.size, 0, none⟩) 3 3] (W.alloc (.cells #[.slice A k c, .slice B m d, .slice A n c] 27)) fun e w' => e = .returned (.bool true) ∧ Below W.heap.size W w' := by
  have hb := Dd.below_alloc W (.cells #[.slice A k c, .slice B m d, .slice A n c] 27)
  have hl := s.len
  refine (core_FrameReads _ _ _ _ _ (three_new W (s.cut0 k hk) s2 s) ?_ ?_ (env.below hb)).mono ?_
  · intro x hx
    simp at hx
    rcases hx with rfl | rfl | rfl
    · exact ib.take _
    · exact ib.drop _
    · exact ib
  · intro x hx
    simp at hx
    rcases hx with rfl | rfl | rfl
    · rw [List.length_take]; omega
    · rw [List.length_drop]; omega
    · omega
  · rintro e w' ⟨rfl, h⟩
    exact ⟨rfl, ext_trans hb h⟩

set_option maxRecDepth 100000 in
set_option maxHeartbeats 8000000 in
theorem walk_FrameNames  (w : World) (tab : It.Tab w) (env : Hb.Env w) :
    Calls Tryz.prog 3 #[] w fun e w' => e = .returned (.bool true) ∧ Below w.heap.size w w' := by
  have T := Lib.hid tab
  have E := Lib.hid env
  clear tab env
  go_enter Tryz.func3, Tryz.ntmps3
  go_wp2
  go_loopw [1, 2] (fun pv ix wr => ∃ i : Nat, ix = .int .i64 i ∧ i ≤ 2 ∧ Hid (Below w.heap.size w wr) ∧ (pv = .pointer none ∨ (∃ P, pv = .pointer (some ⟨P, 0, none⟩) ∧ Hid (Rdr wr P 0 (.slice none 0 0))))) (fun _ ix _ => 2 - (intOf ix).toNat)
  case atStart => exact ⟨0, rfl, by omega, Lib.hid (Below.refl _ _), .inl rfl⟩
  case round =>
    obtain ⟨i, rfl, hi2, hb, hpv⟩ := hrel
    have kc2 := fun (w : World) (C : Array Value) (n c : Nat) => Lib.run_convert_bytes_const (P := Tryz.prog) w 27 5 C n c Tryz.underlying27 Tryz.underlying5
    by_cases hi : i < 2
    · have i1 : (i : Int) < 2 := by omega
      rcases hpv with rfl | ⟨P, rfl, hr⟩
      · go_wp2_with fail
        refine (write_nil _ _).mono ?_
        rintro e w3 ⟨rfl, rfl⟩
        go_wp2_with fail
        refine (left_nil _).mono ?_
        rintro e w3 ⟨rfl, rfl⟩
        go_wp2_with fail
        refine (closed_nil _).mono ?_
        rintro e w3 ⟨rfl, rfl⟩
        go_wp2_with fail
        exact ⟨⟨i + 1, by go_num, by omega, Lib.hid (ext_trans hb.out (ext_trans (Dd.below_alloc _ _) (Dd.below_alloc _ _))), .inr ⟨_, rfl, Lib.hid (rdr_new _ _ (by simp))⟩⟩, by simp [intOf]; omega⟩
      · go_wp2_with fail
        refine (write_zero _ _ _ _ (hr.out.below (Dd.below_alloc _ _))).mono ?_
        rintro e w3 ⟨rfl, rfl⟩
        go_wp2_with fail
        refine (left_zero _ _ _ (hr.out.below (Dd.below_alloc _ _))).mono ?_
        rintro e w3 ⟨rfl, rfl⟩
        go_wp2_with fail
        refine (closed_zero _ _ _ (hr.out.below (Dd.below_alloc _ _))).mono ?_
        rintro e w3 ⟨rfl, rfl⟩
        go_wp2_with fail
        exact ⟨⟨i + 1, by go_num, by omega, Lib.hid (ext_trans hb.out (ext_trans (Dd.below_alloc _ _) (Dd.below_alloc _ _))), .inr ⟨_, rfl, Lib.hid (rdr_new _ _ (by simp))⟩⟩, by simp [intOf]; omega⟩
    · have i1 : ¬ (i : Int) < 2 := by omega
      have T6 := Lib.hid (T.out.below hb.out)
      have E6 := Lib.hid (E.out.below hb.out)
      clear hpv kc2
      obtain ⟨w6, lb, km6, ib6, t6, hb6⟩ := mk_any 65536 (by omega) wr
      have km : (Instr.makeSlice 27 (.int .i64 65536) (.int .i64 65536)).run Tryz.prog wr = .ok (.slice (some ⟨wr.heap.size, 0, none⟩) 65536 65536) w6 := km6
      have TT6 := Lib.hid (T6.out.below hb6)
      have EE6 := Lib.hid (E6.out.below hb6)
      have HB6 := Lib.hid (ext_trans hb.out hb6)
      have HS6 := Lib.hid t6
      have IB6 := Lib.hid ib6
      clear hb6 t6 ib6
      go_wp2_with fail
      refine (frame_ok _ _ _ _ _ HS6.out (by omega) TT6.out).mono ?_
      rintro e w7 ⟨A7, c7, rfl, t7, b7⟩
      have hh : (hd 65536).length ≤ 39 ∧ 20 ≤ (hd 65536).length := by rw [hd_length]; have := decs_five (v := 65536) (by omega); omega
      obtain ⟨N7, hN7⟩ : ∃ N7, (hd 65536).length + 65536 = N7 := ⟨_, rfl⟩
      rw [hN7] at t7 ⊢
      have hN : 65556 ≤ N7 ∧ N7 ≤ 65575 := by omega
      have i100 : (100 : Int) ≤ (N7 : Int) := by omega
      have iNc : (N7 : Int) ≤ (c7 : Int) := by have := t7.le; omega
      have i100c : (100 : Int) ≤ (c7 : Int) := by omega
      have icm : (c7 : Int) ≤ 9223372036854775807 := by have := t7.max; unfold maxLen at this; omega
      have inc : ¬ c7 = 100 := by omega
      have hNN : N7 ≤ 100000 := by omega
      have hN1 : 100 ≤ N7 := by omega
      have I7 := Lib.hid (fr_isB IB6.out)
      have E7 := Lib.hid (EE6.out.below b7)
      have T7 := Lib.hid (TT6.out.below b7)
      have HB7 := Lib.hid (ext_trans HB6.out b7)
      have HT7 := Lib.hid t7
      clear hN7 hh hN b7 t7 km6 km
      obtain ⟨w8, lc, km8, _, _, hb8⟩ := mk_any 65537 (by omega) w7
      have km : (Instr.makeSlice 27 (.int .i64 65537) (.int .i64 65537)).run Tryz.prog w7 = .ok (.slice (some ⟨w7.heap.size, 0, none⟩) 65537 65537) w8 := km8
      have E8 := Lib.hid (E7.out.below hb8)
      have T8 := Lib.hid (T7.out.below hb8)
      have HB8 := Lib.hid (ext_trans HB7.out hb8)
      have HT8 := Lib.hid (HT7.out.below hb8)
      clear hb8
      go_wp2_with fail
      refine (frame_big _ _ _ _ (by omega)).mono ?_
      rintro e w9 ⟨rfl, rfl⟩
      clear km8 km
      go_upto_region 11 with fail
      have s8 : Sl .u8 w8.drew A7 N7 c7 (fr lb) := HT8.out.below (below_drew' (Below.refl _ w8))
      have s8b := Sl.as (Hb.Sl.fromV s8 100 hN1) (if_neg inc) rfl rfl rfl
      have e8 : Env w8.drew := E8.out.below (below_drew' (Below.refl _ w8))
      have C8 := Lib.hid (three_reads w8.drew s8 I7.out 100 hN1 hNN s8b e8)
      clear s8 s8b e8
      refine region_calm (fun _ => True) [0, 1, 2, 3, 4, 5, 6, 7, 8, 9, 10, 11, 12, 13, 14, 15, 16, 19, 20] (by kernel_rfl) ?_
      refine any_takeD 0 52 (.int .i64 0) rfl rfl (by kernel_rfl) (by kernel_rfl) (by kernel_rfl) (by kernel_rfl) (fun _ _ _ h => h) (by rfl) ?_ trivial ?_
      · rintro w' _; go_simp
      simp only [Act.put, List.setIfInBounds_toArray, List.set_cons_zero, List.set_cons_succ]
      refine any_takeD 1 53 (.bool false) rfl rfl (by kernel_rfl) (by kernel_rfl) (by kernel_rfl) (by kernel_rfl) (fun _ _ _ h => h) (by rfl) ?_ trivial ?_
      · rintro w' _; go_simp
      simp only [Act.put, List.setIfInBounds_toArray, List.set_cons_zero, List.set_cons_succ]
      refine any_takeD 2 54 (.bool false) rfl rfl (by kernel_rfl) (by kernel_rfl) (by kernel_rfl) (by kernel_rfl) (fun _ _ _ h => h) (by rfl) ?_ trivial ?_
      · rintro w' _; go_simp
      simp only [Act.put, List.setIfInBounds_toArray, List.set_cons_zero, List.set_cons_succ]
      refine any_takeD 3 55 (.slice none 0 0) rfl rfl (by kernel_rfl) (by kernel_rfl) (by kernel_rfl) (by kernel_rfl) (fun _ _ _ h => h) (by rfl) ?_ trivial ?_
      · rintro w' _; go_simp
      simp only [Act.put, List.setIfInBounds_toArray, List.set_cons_zero, List.set_cons_succ]
      refine any_takeD 4 56 (.int .i64 0) rfl rfl (by kernel_rfl) (by kernel_rfl) (by kernel_rfl) (by kernel_rfl) (fun _ _ _ h => h) (by rfl) ?_ trivial ?_
      · rintro w' _; go_simp
      simp only [Act.put, List.setIfInBounds_toArray, List.set_cons_zero, List.set_cons_succ]
      refine any_takeD 5 57 (.bool false) rfl rfl (by kernel_rfl) (by kernel_rfl) (by kernel_rfl) (by kernel_rfl) (fun _ _ _ h => h) (by rfl) ?_ trivial ?_
      · rintro w' _; go_simp
      simp only [Act.put, List.setIfInBounds_toArray, List.set_cons_zero, List.set_cons_succ]
      refine any_takeD 6 58 (.bool false) rfl rfl (by kernel_rfl) (by kernel_rfl) (by kernel_rfl) (by kernel_rfl) (fun _ _ _ h => h) (by rfl) ?_ trivial ?_
      · rintro w' _; go_simp
      simp only [Act.put, List.setIfInBounds_toArray, List.set_cons_zero, List.set_cons_succ]
      refine any_takeD 7 59 (.bool false) rfl rfl (by kernel_rfl) (by kernel_rfl) (by kernel_rfl) (by kernel_rfl) (fun _ _ _ h => h) (by rfl) ?_ trivial ?_
      · rintro w' _; go_simp
      simp only [Act.put, List.setIfInBounds_toArray, List.set_cons_zero, List.set_cons_succ]
      refine any_takeD 8 60 (.int .i64 5) rfl rfl (by kernel_rfl) (by kernel_rfl) (by kernel_rfl) (by kernel_rfl) (fun _ _ _ h => h) (by rfl) ?_ trivial ?_
      · rintro w' _; go_simp
      simp only [Act.put, List.setIfInBounds_toArray, List.set_cons_zero, List.set_cons_succ]
      refine any_takeD 9 61 (.bool false) rfl rfl (by kernel_rfl) (by kernel_rfl) (by kernel_rfl) (by kernel_rfl) (fun _ _ _ h => h) (by rfl) ?_ trivial ?_
      · rintro w' _; go_simp
      simp only [Act.put, List.setIfInBounds_toArray, List.set_cons_zero, List.set_cons_succ]
      refine any_takeD 10 62 (.bool false) rfl rfl (by kernel_rfl) (by kernel_rfl) (by kernel_rfl) (by kernel_rfl) (fun _ _ _ h => h) (by rfl) ?_ trivial ?_
      · rintro w' _; go_simp
      simp only [Act.put, List.setIfInBounds_toArray, List.set_cons_zero, List.set_cons_succ]
      refine any_takeD 11 63 (.bool false) rfl rfl (by kernel_rfl) (by kernel_rfl) (by kernel_rfl) (by kernel_rfl) (fun _ _ _ h => h) (by rfl) ?_ trivial ?_
      · rintro w' _; go_simp
      simp only [Act.put, List.setIfInBounds_toArray, List.set_cons_zero, List.set_cons_succ]
      refine any_takeD 12 64 (.slice A7 N7 c7) rfl rfl (by kernel_rfl) (by kernel_rfl) (by kernel_rfl) (by kernel_rfl) (fun _ _ _ h => h) (by rfl) ?_ trivial ?_
      · rintro w' _; go_simp
      simp only [Act.put, List.setIfInBounds_toArray, List.set_cons_zero, List.set_cons_succ]
      refine any_takeD 13 65 (.slice A7 100 c7) rfl rfl (by kernel_rfl) (by kernel_rfl) (by kernel_rfl) (by kernel_rfl) (fun _ _ _ h => h) (by rfl) ?_ trivial ?_
      · rintro w' _; go_simp
      simp only [Act.put, List.setIfInBounds_toArray, List.set_cons_zero, List.set_cons_succ]
      refine any_takeD 14 66 (.slice A7 N7 c7) rfl rfl (by kernel_rfl) (by kernel_rfl) (by kernel_rfl) (by kernel_rfl) (fun _ _ _ h => h) (by rfl) ?_ trivial ?_
      · rintro w' _; go_simp
      simp only [Act.put, List.setIfInBounds_toArray, List.set_cons_zero, List.set_cons_succ]
      refine any_takeD 15 67 (.slice (A7.map (fun x => x.add 100)) (N7 - 100) (c7 - 100)) rfl rfl (by kernel_rfl) (by kernel_rfl) (by kernel_rfl) (by kernel_rfl) (fun _ _ _ h => h) (by rfl) ?_ trivial ?_
      · rintro w' _; go_simp
      simp only [Act.put, List.setIfInBounds_toArray, List.set_cons_zero, List.set_cons_succ]
      refine any_takeD 16 68 (.slice A7 N7 c7) rfl rfl (by kernel_rfl) (by kernel_rfl) (by kernel_rfl) (by kernel_rfl) (fun _ _ _ h => h) (by rfl) ?_ trivial ?_
      · rintro w' _; go_simp
      simp only [Act.put, List.setIfInBounds_toArray, List.set_cons_zero, List.set_cons_succ]
      refine any_runD 17 69 (.slice (some ⟨w8.heap.size, 0, none⟩) 3 3) (w8.drew.alloc (.cells #[.slice A7 100 c7, .slice (A7.map (fun x => x.add 100)) (N7 - 100) (c7 - 100), .slice A7 N7 c7] 27)) (by kernel_rfl) rfl rfl (by rfl) ?_ (.inr trivial) ?_
      · go_simp
      simp only [Act.put, List.setIfInBounds_toArray, List.set_cons_zero, List.set_cons_succ]
      refine any_callD 18 70 (by kernel_rfl) rfl rfl (by rfl) (fn := 8) (args := #[.slice (some ⟨w8.heap.size, 0, none⟩) 3 3]) ?_ (C8.out) ?_
      · go_simp
      rintro e w10 ⟨rfl, hbw10⟩
      refine ⟨_, rfl, .inr trivial, ?_⟩
      simp only [Act.put, List.setIfInBounds_toArray, List.set_cons_zero, List.set_cons_succ]
      refine any_takeD 19 71 (.bool false) rfl rfl (by kernel_rfl) (by kernel_rfl) (by kernel_rfl) (by kernel_rfl) (fun _ _ _ h => h) (by rfl) ?_ trivial ?_
      · rintro w' _; go_simp
      simp only [Act.put, List.setIfInBounds_toArray, List.set_cons_zero, List.set_cons_succ]
      refine any_takeD 20 72 (.bool false) rfl rfl (by kernel_rfl) (by kernel_rfl) (by kernel_rfl) (by kernel_rfl) (fun _ _ _ h => h) (by rfl) ?_ trivial ?_
      · rintro w' _; go_simp
      simp only [Act.put, List.setIfInBounds_toArray, List.set_cons_zero, List.set_cons_succ]
      refine any_done (by kernel_rfl) ?_ _
      refine calm_normal ?_
      have HB10 := Lib.hid (ext_trans HB8.out (show Below w8.heap.size w8 w10 from (below_drew' (Below.refl _ w8)).trans hbw10))
      clear C8 hbw10 i100 iNc i100c icm inc hNN hN1
      go_wp2
      go_loopw [10] (fun ix W => ∃ k : Nat, k ≤ 6 ∧ ix = .int .i64 k ∧ Hid (TbS w10.heap.size 6 W) ∧ Hid (Below w.heap.size w W)) (fun ix _ => 6 - (intOf ix).toNat)
      case atStart =>
        refine ⟨0, by omega, rfl, Lib.hid (tbS_new w10 _ _ ?h1 ?h3), Lib.hid (ext_trans HB10.out (Dd.below_alloc w10 _))⟩
        case h1 => decide +kernel
        case h3 => rfl
      case round =>
        obtain ⟨k, hk, rfl, hS, hB⟩ := hrel
        by_cases hk6 : k < 6
        · have i2 : (k : Int) < 6 := by omega
          obtain ⟨s, hcs, hss⟩ := hS.out k hk6
          have kc := bytes_any
          have hsz0 : s.size ≤ 9223372036854775807 := by omega
          have tS := sl_bytes wr s hss
          have hbS := Lib.bytesWorld_below wr 5 s
          have hl1 := lt_of_cell hcs
          generalize hZ : s.size = Z at *
          go_wp2
          generalize grownCap wr Z 0 5 = C at *
          generalize Lib.bytesWorld wr 5 s = w11 at *
          obtain ⟨A, hA⟩ : ∃ A : Option Addr, some ⟨wr.heap.size, 0, none⟩ = A := ⟨_, rfl⟩
          rw [hA] at tS ⊢
          have iC : (Z : Int) ≤ (C : Int) := by have := tS.le; omega
          have iCm : (C : Int) ≤ 9223372036854775807 := by have := tS.max; unfold maxLen at this; omega
          have HTS := Lib.hid tS
          have HS2 := Lib.hid (hS.out.below hbS)
          have HB2 := Lib.hid (ext_trans hB.out hbS)
          have IBS := Lib.hid (lof_byte s)
          clear hcs kc tS hbS hS hB hA hl1 hZ
          go_loopw [12] (fun jx W => ∃ j : Nat, j ≤ Z + 1 ∧ jx = .int .i64 j ∧ Hid (TbS w10.heap.size 6 W) ∧ Hid (Sl .u8 W A Z C (lof s)) ∧ Hid (Below w.heap.size w W)) (fun jx _ => Z + 1 - (intOf jx).toNat)
          case atStart => exact ⟨0, by omega, rfl, HS2, HTS, HB2⟩
          case round =>
            obtain ⟨j, hj, rfl, hS, hT, hB⟩ := hrel
            by_cases hjz : j ≤ Z
            · have i3 : (j : Int) ≤ (Z : Int) := by omega
              have i4 : (0 : Int) ≤ (j : Int) := by omega
              have i5 : (j : Int) ≤ (C : Int) := by omega
              have EV := Lib.hid (E.out.below hB.out)
              go_upto_region 21 with fail
              have s1 : Sl .u8 wr.drew A Z C (lof s) := hT.out.below (below_drew' (Below.refl _ wr))
              have e1 : Env wr.drew := EV.out.below (below_drew' (Below.refl _ wr))
              by_cases q1 : C = j
              · have C1 := Lib.hid (three_reads wr.drew s1 IBS.out j hjz (by omega) (B := A) (m := Z - j) (d := C - j) (Sl.as (Hb.Sl.fromV s1 j hjz) (if_pos q1) rfl rfl rfl) e1)
                clear s1 e1
                refine region_calm (fun _ => True) [0, 1, 2, 3, 4, 5, 6, 9, 10, 11, 12, 13, 14, 16, 17] (by kernel_rfl) ?_
                refine any_takeD 0 91 (.slice A Z C) rfl rfl (by kernel_rfl) (by kernel_rfl) (by kernel_rfl) (by kernel_rfl) (fun _ _ _ h => h) (by rfl) ?_ trivial ?_
                · rintro w' _; go_simp
                simp only [Act.put, List.setIfInBounds_toArray, List.set_cons_zero, List.set_cons_succ]
                refine any_takeD 1 92 (.int .i64 (j : Int)) rfl rfl (by kernel_rfl) (by kernel_rfl) (by kernel_rfl) (by kernel_rfl) (fun _ _ _ h => h) (by rfl) ?_ trivial ?_
                · rintro w' _; go_simp
                simp only [Act.put, List.setIfInBounds_toArray, List.set_cons_zero, List.set_cons_succ]
                refine any_takeD 2 93 (.slice A j C) rfl rfl (by kernel_rfl) (by kernel_rfl) (by kernel_rfl) (by kernel_rfl) (fun _ _ _ h => h) (by rfl) ?_ trivial ?_
                · rintro w' _; go_simp
                simp only [Act.put, List.setIfInBounds_toArray, List.set_cons_zero, List.set_cons_succ]
                refine any_takeD 3 94 (.slice A Z C) rfl rfl (by kernel_rfl) (by kernel_rfl) (by kernel_rfl) (by kernel_rfl) (fun _ _ _ h => h) (by rfl) ?_ trivial ?_
                · rintro w' _; go_simp
                simp only [Act.put, List.setIfInBounds_toArray, List.set_cons_zero, List.set_cons_succ]
                refine any_takeD 4 95 (.int .i64 (j : Int)) rfl rfl (by kernel_rfl) (by kernel_rfl) (by kernel_rfl) (by kernel_rfl) (fun _ _ _ h => h) (by rfl) ?_ trivial ?_
                · rintro w' _; go_simp
                simp only [Act.put, List.setIfInBounds_toArray, List.set_cons_zero, List.set_cons_succ]
                refine any_takeD 5 96 (.slice (A) (Z - j) (C - j)) rfl rfl (by kernel_rfl) (by kernel_rfl) (by kernel_rfl) (by kernel_rfl) (fun _ _ _ h => h) (by rfl) ?_ trivial ?_
                · rintro w' _; go_simp
                simp only [Act.put, List.setIfInBounds_toArray, List.set_cons_zero, List.set_cons_succ]
                refine any_takeD 6 97 (.slice A Z C) rfl rfl (by kernel_rfl) (by kernel_rfl) (by kernel_rfl) (by kernel_rfl) (fun _ _ _ h => h) (by rfl) ?_ trivial ?_
                · rintro w' _; go_simp
                simp only [Act.put, List.setIfInBounds_toArray, List.set_cons_zero, List.set_cons_succ]
                refine any_runD 7 98 (.slice (some ⟨wr.heap.size, 0, none⟩) 3 3) (wr.drew.alloc (.cells #[.slice A j C, .slice (A) (Z - j) (C - j), .slice A Z C] 27)) (by kernel_rfl) rfl rfl (by rfl) ?_ (.inr trivial) ?_
                · go_simp
                simp only [Act.put, List.setIfInBounds_toArray, List.set_cons_zero, List.set_cons_succ]
                refine any_callD 8 99 (by kernel_rfl) rfl rfl (by rfl) (fn := 8) (args := #[.slice (some ⟨wr.heap.size, 0, none⟩) 3 3]) ?_ (C1.out) ?_
                · go_simp
                rintro e w12 ⟨rfl, hbw12⟩
                refine ⟨_, rfl, .inr trivial, ?_⟩
                simp only [Act.put, List.setIfInBounds_toArray, List.set_cons_zero, List.set_cons_succ]
                have hb12 : Below wr.heap.size wr w12 := (below_drew' (Below.refl _ wr)).trans hbw12
                refine any_takeD 9 100 (.bool false) rfl rfl (by kernel_rfl) (by kernel_rfl) (by kernel_rfl) (by kernel_rfl) (fun _ _ _ h => h) (by rfl) ?_ trivial ?_
                · rintro w' _; go_simp
                simp only [Act.put, List.setIfInBounds_toArray, List.set_cons_zero, List.set_cons_succ]
                refine any_takeD 10 101 (.bool false) rfl rfl (by kernel_rfl) (by kernel_rfl) (by kernel_rfl) (by kernel_rfl) (fun _ _ _ h => h) (by rfl) ?_ trivial ?_
                · rintro w' _; go_simp
                simp only [Act.put, List.setIfInBounds_toArray, List.set_cons_zero, List.set_cons_succ]
                refine any_takeD 11 102 (.slice A Z C) rfl rfl (by kernel_rfl) (by kernel_rfl) (by kernel_rfl) (by kernel_rfl) (fun _ _ _ h => h) (by rfl) ?_ trivial ?_
                · rintro w' _; go_simp
                simp only [Act.put, List.setIfInBounds_toArray, List.set_cons_zero, List.set_cons_succ]
                refine any_takeD 12 103 (.int .i64 (j : Int)) rfl rfl (by kernel_rfl) (by kernel_rfl) (by kernel_rfl) (by kernel_rfl) (fun _ _ _ h => h) (by rfl) ?_ trivial ?_
                · rintro w' _; go_simp
                simp only [Act.put, List.setIfInBounds_toArray, List.set_cons_zero, List.set_cons_succ]
                refine any_takeD 13 104 (.slice A j C) rfl rfl (by kernel_rfl) (by kernel_rfl) (by kernel_rfl) (by kernel_rfl) (fun _ _ _ h => h) (by rfl) ?_ trivial ?_
                · rintro w' _; go_simp
                simp only [Act.put, List.setIfInBounds_toArray, List.set_cons_zero, List.set_cons_succ]
                refine any_takeD 14 105 (.int .i64 (j : Int)) rfl rfl (by kernel_rfl) (by kernel_rfl) (by kernel_rfl) (by kernel_rfl) (fun _ _ _ h => h) (by rfl) ?_ trivial ?_
                · rintro w' _; go_simp
                simp only [Act.put, List.setIfInBounds_toArray, List.set_cons_zero, List.set_cons_succ]
                refine any_callD 15 106 (by kernel_rfl) rfl rfl (by rfl) (fn := 9) (args := #[.slice A j C, .int .i64 (j : Int)]) ?_ (core_FrameAll A j C ((lof s).take j) (j : Int) w12 ((hT.out.below hb12).cut0 j hjz) (IBS.out.take j) (by omega) (by omega) (by omega) (EV.out.below hb12)) ?_
                · go_simp
                rintro e w13 ⟨rfl, hbw13⟩
                refine ⟨_, rfl, .inr trivial, ?_⟩
                simp only [Act.put, List.setIfInBounds_toArray, List.set_cons_zero, List.set_cons_succ]
                refine any_takeD 16 107 (.bool false) rfl rfl (by kernel_rfl) (by kernel_rfl) (by kernel_rfl) (by kernel_rfl) (fun _ _ _ h => h) (by rfl) ?_ trivial ?_
                · rintro w' _; go_simp
                simp only [Act.put, List.setIfInBounds_toArray, List.set_cons_zero, List.set_cons_succ]
                refine any_takeD 17 108 (.bool false) rfl rfl (by kernel_rfl) (by kernel_rfl) (by kernel_rfl) (by kernel_rfl) (fun _ _ _ h => h) (by rfl) ?_ trivial ?_
                · rintro w' _; go_simp
                simp only [Act.put, List.setIfInBounds_toArray, List.set_cons_zero, List.set_cons_succ]
                refine any_done (by kernel_rfl) ?_ _
                refine calm_normal ?_
                have hb13 := ext_trans hb12 hbw13
                have HS3 := Lib.hid (hS.out.below hb13)
                have HT3 := Lib.hid (hT.out.below hb13)
                have HB3 := Lib.hid (ext_trans hB.out hb13)
                clear C1 hb12 hb13 hbw12 hbw13
                go_wp2
                exact ⟨⟨j + 1, by omega, by go_num, HS3, HT3, HB3⟩, by simp [intOf]; omega⟩
              · have q2 : ¬ (C : Int) = (j : Int) := by omega
                have C1 := Lib.hid (three_reads wr.drew s1 IBS.out j hjz (by omega) (B := A.map (fun x => x.add j)) (m := Z - j) (d := C - j) (Sl.as (Hb.Sl.fromV s1 j hjz) (if_neg q1) rfl rfl rfl) e1)
                clear s1 e1
                refine region_calm (fun _ => True) [0, 1, 2, 3, 4, 5, 6, 9, 10, 11, 12, 13, 14, 16, 17] (by kernel_rfl) ?_
                refine any_takeD 0 91 (.slice A Z C) rfl rfl (by kernel_rfl) (by kernel_rfl) (by kernel_rfl) (by kernel_rfl) (fun _ _ _ h => h) (by rfl) ?_ trivial ?_
                · rintro w' _; go_simp
                simp only [Act.put, List.setIfInBounds_toArray, List.set_cons_zero, List.set_cons_succ]
                refine any_takeD 1 92 (.int .i64 (j : Int)) rfl rfl (by kernel_rfl) (by kernel_rfl) (by kernel_rfl) (by kernel_rfl) (fun _ _ _ h => h) (by rfl) ?_ trivial ?_
                · rintro w' _; go_simp
                simp only [Act.put, List.setIfInBounds_toArray, List.set_cons_zero, List.set_cons_succ]
                refine any_takeD 2 93 (.slice A j C) rfl rfl (by kernel_rfl) (by kernel_rfl) (by kernel_rfl) (by kernel_rfl) (fun _ _ _ h => h) (by rfl) ?_ trivial ?_
                · rintro w' _; go_simp
                simp only [Act.put, List.setIfInBounds_toArray, List.set_cons_zero, List.set_cons_succ]
                refine any_takeD 3 94 (.slice A Z C) rfl rfl (by kernel_rfl) (by kernel_rfl) (by kernel_rfl) (by kernel_rfl) (fun _ _ _ h => h) (by rfl) ?_ trivial ?_
                · rintro w' _; go_simp
                simp only [Act.put, List.setIfInBounds_toArray, List.set_cons_zero, List.set_cons_succ]
                refine any_takeD 4 95 (.int .i64 (j : Int)) rfl rfl (by kernel_rfl) (by kernel_rfl) (by kernel_rfl) (by kernel_rfl) (fun _ _ _ h => h) (by rfl) ?_ trivial ?_
                · rintro w' _; go_simp
                simp only [Act.put, List.setIfInBounds_toArray, List.set_cons_zero, List.set_cons_succ]
                refine any_takeD 5 96 (.slice (A.map (fun x => x.add j)) (Z - j) (C - j)) rfl rfl (by kernel_rfl) (by kernel_rfl) (by kernel_rfl) (by kernel_rfl) (fun _ _ _ h => h) (by rfl) ?_ trivial ?_
                · rintro w' _; go_simp
                simp only [Act.put, List.setIfInBounds_toArray, List.set_cons_zero, List.set_cons_succ]
                refine any_takeD 6 97 (.slice A Z C) rfl rfl (by kernel_rfl) (by kernel_rfl) (by kernel_rfl) (by kernel_rfl) (fun _ _ _ h => h) (by rfl) ?_ trivial ?_
                · rintro w' _; go_simp
                simp only [Act.put, List.setIfInBounds_toArray, List.set_cons_zero, List.set_cons_succ]
                refine any_runD 7 98 (.slice (some ⟨wr.heap.size, 0, none⟩) 3 3) (wr.drew.alloc (.cells #[.slice A j C, .slice (A.map (fun x => x.add j)) (Z - j) (C - j), .slice A Z C] 27)) (by kernel_rfl) rfl rfl (by rfl) ?_ (.inr trivial) ?_
                · go_simp
                simp only [Act.put, List.setIfInBounds_toArray, List.set_cons_zero, List.set_cons_succ]
                refine any_callD 8 99 (by kernel_rfl) rfl rfl (by rfl) (fn := 8) (args := #[.slice (some ⟨wr.heap.size, 0, none⟩) 3 3]) ?_ (C1.out) ?_
                · go_simp
                rintro e w12 ⟨rfl, hbw12⟩
                refine ⟨_, rfl, .inr trivial, ?_⟩
                simp only [Act.put, List.setIfInBounds_toArray, List.set_cons_zero, List.set_cons_succ]
                have hb12 : Below wr.heap.size wr w12 := (below_drew' (Below.refl _ wr)).trans hbw12
                refine any_takeD 9 100 (.bool false) rfl rfl (by kernel_rfl) (by kernel_rfl) (by kernel_rfl) (by kernel_rfl) (fun _ _ _ h => h) (by rfl) ?_ trivial ?_
                · rintro w' _; go_simp
                simp only [Act.put, List.setIfInBounds_toArray, List.set_cons_zero, List.set_cons_succ]
                refine any_takeD 10 101 (.bool false) rfl rfl (by kernel_rfl) (by kernel_rfl) (by kernel_rfl) (by kernel_rfl) (fun _ _ _ h => h) (by rfl) ?_ trivial ?_
                · rintro w' _; go_simp
                simp only [Act.put, List.setIfInBounds_toArray, List.set_cons_zero, List.set_cons_succ]
                refine any_takeD 11 102 (.slice A Z C) rfl rfl (by kernel_rfl) (by kernel_rfl) (by kernel_rfl) (by kernel_rfl) (fun _ _ _ h => h) (by rfl) ?_ trivial ?_
                · rintro w' _; go_simp
                simp only [Act.put, List.setIfInBounds_toArray, List.set_cons_zero, List.set_cons_succ]
                refine any_takeD 12 103 (.int .i64 (j : Int)) rfl rfl (by kernel_rfl) (by kernel_rfl) (by kernel_rfl) (by kernel_rfl) (fun _ _ _ h => h) (by rfl) ?_ trivial ?_
                · rintro w' _; go_simp
                simp only [Act.put, List.setIfInBounds_toArray, List.set_cons_zero, List.set_cons_succ]
                refine any_takeD 13 104 (.slice A j C) rfl rfl (by kernel_rfl) (by kernel_rfl) (by kernel_rfl) (by kernel_rfl) (fun _ _ _ h => h) (by rfl) ?_ trivial ?_
                · rintro w' _; go_simp
                simp only [Act.put, List.setIfInBounds_toArray, List.set_cons_zero, List.set_cons_succ]
                refine any_takeD 14 105 (.int .i64 (j : Int)) rfl rfl (by kernel_rfl) (by kernel_rfl) (by kernel_rfl) (by kernel_rfl) (fun _ _ _ h => h) (by rfl) ?_ trivial ?_
                · rintro w' _; go_simp
                simp only [Act.put, List.setIfInBounds_toArray, List.set_cons_zero, List.set_cons_succ]
                refine any_callD 15 106 (by kernel_rfl) rfl rfl (by rfl) (fn := 9) (args := #[.slice A j C, .int .i64 (j : Int)]) ?_ (core_FrameAll A j C ((lof s).take j) (j : Int) w12 ((hT.out.below hb12).cut0 j hjz) (IBS.out.take j) (by omega) (by omega) (by omega) (EV.out.below hb12)) ?_
                · go_simp
                rintro e w13 ⟨rfl, hbw13⟩
                refine ⟨_, rfl, .inr trivial, ?_⟩
                simp only [Act.put, List.setIfInBounds_toArray, List.set_cons_zero, List.set_cons_succ]
                refine any_takeD 16 107 (.bool false) rfl rfl (by kernel_rfl) (by kernel_rfl) (by kernel_rfl) (by kernel_rfl) (fun _ _ _ h => h) (by rfl) ?_ trivial ?_
                · rintro w' _; go_simp
                simp only [Act.put, List.setIfInBounds_toArray, List.set_cons_zero, List.set_cons_succ]
                refine any_takeD 17 108 (.bool false) rfl rfl (by kernel_rfl) (by kernel_rfl) (by kernel_rfl) (by kernel_rfl) (fun _ _ _ h => h) (by rfl) ?_ trivial ?_
                · rintro w' _; go_simp
                simp only [Act.put, List.setIfInBounds_toArray, List.set_cons_zero, List.set_cons_succ]
                refine any_done (by kernel_rfl) ?_ _
                refine calm_normal ?_
                have hb13 := ext_trans hb12 hbw13
                have HS3 := Lib.hid (hS.out.below hb13)
                have HT3 := Lib.hid (hT.out.below hb13)
                have HB3 := Lib.hid (ext_trans hB.out hb13)
                clear C1 hb12 hb13 hbw12 hbw13
                go_wp2
                exact ⟨⟨j + 1, by omega, by go_num, HS3, HT3, HB3⟩, by simp [intOf]; omega⟩
            · have i3 : ¬ (j : Int) ≤ (Z : Int) := by omega
              go_wp2
              go_roundw
              case rel => (first | exact ⟨k + 1, by omega, by go_num, hS, hB⟩ | exact ⟨k + 1, by omega, by go_num⟩ | exact ⟨k + 1, by omega, by simp⟩)
              case measure => simp [intOf]; omega
        · have i2 : ¬ (k : Int) < 6 := by omega
          have EV := Lib.hid (E.out.below hB.out)
          have TV := Lib.hid (T.out.below hB.out)
          go_upto_region 23 with fail
          have e1 : Env wr.drew := EV.out.below (below_drew' (Below.refl _ wr))
          refine region_calm (fun _ => True) [0, 2, 3, 5, 6, 11, 12] (by kernel_rfl) ?_
          refine any_takeD 0 109 (.bool true) rfl rfl (by kernel_rfl) (by kernel_rfl) (by kernel_rfl) (by kernel_rfl) (fun _ _ _ h => h) (by rfl) ?_ trivial ?_
          · rintro w' _; go_simp
          simp only [Act.put, List.setIfInBounds_toArray, List.set_cons_zero, List.set_cons_succ]
          refine any_callD 1 110 (by kernel_rfl) rfl rfl (by rfl) (fn := 10) (args := #[]) ?_ (awake7 wr.drew e1) ?_
          · go_simp
          rintro e w14 ⟨rfl, hbw14⟩
          refine ⟨_, rfl, .inr trivial, ?_⟩
          simp only [Act.put, List.setIfInBounds_toArray, List.set_cons_zero, List.set_cons_succ]
          have hb14 : Below wr.heap.size wr w14 := (below_drew' (Below.refl _ wr)).trans hbw14
          refine any_takeD 2 111 (.bool true) rfl rfl (by kernel_rfl) (by kernel_rfl) (by kernel_rfl) (by kernel_rfl) (fun _ _ _ h => h) (by rfl) ?_ trivial ?_
          · rintro w' _; go_simp
          simp only [Act.put, List.setIfInBounds_toArray, List.set_cons_zero, List.set_cons_succ]
          refine any_takeD 3 112 (.bool true) rfl rfl (by kernel_rfl) (by kernel_rfl) (by kernel_rfl) (by kernel_rfl) (fun _ _ _ h => h) (by rfl) ?_ trivial ?_
          · rintro w' _; go_simp
          simp only [Act.put, List.setIfInBounds_toArray, List.set_cons_zero, List.set_cons_succ]
          refine any_callD 4 113 (by kernel_rfl) rfl rfl (by rfl) (fn := 11) (args := #[.slice none 0 0]) ?_ (core_FrameMakes none 0 0 [] w14 Sl.none_ (by intro x hx; cases hx) (by omega) (TV.out.below hb14) (EV.out.below hb14)) ?_
          · go_simp
          rintro e w15 ⟨rfl, hbw15⟩
          refine ⟨_, rfl, .inr trivial, ?_⟩
          simp only [Act.put, List.setIfInBounds_toArray, List.set_cons_zero, List.set_cons_succ]
          have hb15 := ext_trans hb14 hbw15
          refine any_takeD 5 114 (.bool true) rfl rfl (by kernel_rfl) (by kernel_rfl) (by kernel_rfl) (by kernel_rfl) (fun _ _ _ h => h) (by rfl) ?_ trivial ?_
          · rintro w' _; go_simp
          simp only [Act.put, List.setIfInBounds_toArray, List.set_cons_zero, List.set_cons_succ]
          refine any_takeD 6 115 (.bool true) rfl rfl (by kernel_rfl) (by kernel_rfl) (by kernel_rfl) (by kernel_rfl) (fun _ _ _ h => h) (by rfl) ?_ trivial ?_
          · rintro w' _; go_simp
          simp only [Act.put, List.setIfInBounds_toArray, List.set_cons_zero, List.set_cons_succ]
          obtain ⟨wa, la, ka, ia, ta, ba⟩ := mk_any 511 (by omega) w15
          obtain ⟨wb, lb2, kb, ib, tb, bb⟩ := mk_any 1 (by omega) w15
          have ka2 : (Instr.makeSlice 27 (.int .i64 511) (.int .i64 511)).run Tryz.prog w15 = .ok (.slice (some ⟨w15.heap.size, 0, none⟩) 511 511) wa := ka
          have kb2 : (Instr.makeSlice 27 (.int .i64 1) (.int .i64 1)).run Tryz.prog w15 = .ok (.slice (some ⟨w15.heap.size, 0, none⟩) 1 1) wb := kb
          refine any_pair 7 8 116 117 (.slice (some ⟨w15.heap.size, 0, none⟩) 511 511) (.slice (some ⟨w15.heap.size, 0, none⟩) 1 1) wa wb (by kernel_rfl) rfl rfl (by rfl) (by go_simp) trivial rfl rfl (by rfl) (by go_simp) trivial ?_ ?_
          · simp only [Act.put, List.setIfInBounds_toArray, List.set_cons_zero, List.set_cons_succ]
            obtain ⟨wc, ld, kd, id2, td, bd⟩ := mk_any 1 (by omega) wa
            have kd2 : (Instr.makeSlice 27 (.int .i64 1) (.int .i64 1)).run Tryz.prog wa = .ok (.slice (some ⟨wa.heap.size, 0, none⟩) 1 1) wc := kd
            have hbc := ext_trans hb15 (ext_trans ba bd)
            refine any_runD 8 117 (.slice (some ⟨wa.heap.size, 0, none⟩) 1 1) (wc) (by kernel_rfl) rfl rfl (by rfl) ?_ (.inr trivial) ?_
            · go_simp
            simp only [Act.put, List.setIfInBounds_toArray, List.set_cons_zero, List.set_cons_succ]
            have l3 := three_new wc (ta.below bd) td (Sl.none_ : Sl .u8 wc none 0 0 [])
            have hx := (ta.below bd).len
            have hy := td.len
            have hal := Dd.below_alloc wc (.cells #[.slice (some ⟨w15.heap.size, 0, none⟩) 511 511, .slice (some ⟨wa.heap.size, 0, none⟩) 1 1, .slice none 0 0] 27)
            refine any_runD 9 118 (.slice (some ⟨wc.heap.size, 0, none⟩) 3 3) (wc.alloc (.cells #[.slice (some ⟨w15.heap.size, 0, none⟩) 511 511, .slice (some ⟨wa.heap.size, 0, none⟩) 1 1, .slice none 0 0] 27)) (by kernel_rfl) rfl rfl (by rfl) ?_ (.inr trivial) ?_
            · go_simp
            simp only [Act.put, List.setIfInBounds_toArray, List.set_cons_zero, List.set_cons_succ]
            refine any_callD 10 119 (by kernel_rfl) rfl rfl (by rfl) (fn := 8) (args := #[.slice (some ⟨wc.heap.size, 0, none⟩) 3 3]) ?_ (core_FrameReads _ _ _ _ _ l3 (by intro x hx; simp at hx; rcases hx with rfl | rfl | rfl; exact ia; exact id2; intro y hy; cases hy) (by intro x hx; simp at hx; rcases hx with rfl | rfl | rfl; omega; omega; simp) (EV.out.below (ext_trans hbc hal))) ?_
            · go_simp
            rintro e w16 ⟨rfl, hbw16⟩
            refine ⟨_, rfl, .inr trivial, ?_⟩
            simp only [Act.put, List.setIfInBounds_toArray, List.set_cons_zero, List.set_cons_succ]
            refine any_takeD 11 120 (.bool true) rfl rfl (by kernel_rfl) (by kernel_rfl) (by kernel_rfl) (by kernel_rfl) (fun _ _ _ h => h) (by rfl) ?_ trivial ?_
            · rintro w' _; go_simp
            simp only [Act.put, List.setIfInBounds_toArray, List.set_cons_zero, List.set_cons_succ]
            refine any_takeD 12 0 (.bool true) rfl rfl (by kernel_rfl) (by kernel_rfl) (by kernel_rfl) (by kernel_rfl) (fun _ _ _ h => h) (by rfl) ?_ trivial ?_
            · rintro w' _; go_simp
            simp only [Act.put, List.setIfInBounds_toArray, List.set_cons_zero, List.set_cons_succ]
            refine any_done (by kernel_rfl) ?_ _
            refine calm_normal ?_
            have HBE := Lib.hid (ext_trans hB.out (ext_trans hbc (ext_trans hal hbw16)))
            clear hbc hal hbw16 l3 hx hy
            go_wp2
            go_ret
            exact ⟨rfl, HBE.out⟩
          · simp only [Act.put, List.setIfInBounds_toArray, List.set_cons_zero, List.set_cons_succ]
            obtain ⟨wc, ld, kd, id2, td, bd⟩ := mk_any 511 (by omega) wb
            have kd2 : (Instr.makeSlice 27 (.int .i64 511) (.int .i64 511)).run Tryz.prog wb = .ok (.slice (some ⟨wb.heap.size, 0, none⟩) 511 511) wc := kd
            have hbc := ext_trans hb15 (ext_trans bb bd)
            refine any_runD 7 116 (.slice (some ⟨wb.heap.size, 0, none⟩) 511 511) (wc) (by kernel_rfl) rfl rfl (by rfl) ?_ (.inr trivial) ?_
            · go_simp
            simp only [Act.put, List.setIfInBounds_toArray, List.set_cons_zero, List.set_cons_succ]
            have l3 := three_new wc td (tb.below bd) (Sl.none_ : Sl .u8 wc none 0 0 [])
            have hx := td.len
            have hy := (tb.below bd).len
            have hal := Dd.below_alloc wc (.cells #[.slice (some ⟨wb.heap.size, 0, none⟩) 511 511, .slice (some ⟨w15.heap.size, 0, none⟩) 1 1, .slice none 0 0] 27)
            refine any_runD 9 118 (.slice (some ⟨wc.heap.size, 0, none⟩) 3 3) (wc.alloc (.cells #[.slice (some ⟨wb.heap.size, 0, none⟩) 511 511, .slice (some ⟨w15.heap.size, 0, none⟩) 1 1, .slice none 0 0] 27)) (by kernel_rfl) rfl rfl (by rfl) ?_ (.inr trivial) ?_
            · go_simp
            simp only [Act.put, List.setIfInBounds_toArray, List.set_cons_zero, List.set_cons_succ]
            refine any_callD 10 119 (by kernel_rfl) rfl rfl (by rfl) (fn := 8) (args := #[.slice (some ⟨wc.heap.size, 0, none⟩) 3 3]) ?_ (core_FrameReads _ _ _ _ _ l3 (by intro x hx; simp at hx; rcases hx with rfl | rfl | rfl; exact id2; exact ib; intro y hy; cases hy) (by intro x hx; simp at hx; rcases hx with rfl | rfl | rfl; omega; omega; simp) (EV.out.below (ext_trans hbc hal))) ?_
            · go_simp
            rintro e w16 ⟨rfl, hbw16⟩
            refine ⟨_, rfl, .inr trivial, ?_⟩
            simp only [Act.put, List.setIfInBounds_toArray, List.set_cons_zero, List.set_cons_succ]
            refine any_takeD 11 120 (.bool true) rfl rfl (by kernel_rfl) (by kernel_rfl) (by kernel_rfl) (by kernel_rfl) (fun _ _ _ h => h) (by rfl) ?_ trivial ?_
            · rintro w' _; go_simp
            simp only [Act.put, List.setIfInBounds_toArray, List.set_cons_zero, List.set_cons_succ]
            refine any_takeD 12 0 (.bool true) rfl rfl (by kernel_rfl) (by kernel_rfl) (by kernel_rfl) (by kernel_rfl) (fun _ _ _ h => h) (by rfl) ?_ trivial ?_
            · rintro w' _; go_simp
            simp only [Act.put, List.setIfInBounds_toArray, List.set_cons_zero, List.set_cons_succ]
            refine any_done (by kernel_rfl) ?_ _
            refine calm_normal ?_
            have HBE := Lib.hid (ext_trans hB.out (ext_trans hbc (ext_trans hal hbw16)))
            clear hbc hal hbw16 l3 hx hy
            go_wp2
            go_ret
            exact ⟨rfl, HBE.out⟩
end Go.Proofs.YtigiiofiajhnlaaGreatDoor
