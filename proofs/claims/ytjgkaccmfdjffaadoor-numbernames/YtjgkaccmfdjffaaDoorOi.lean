/-
  The walk of NumberNames.
-/
import Derived.Test.YtjgkaccmfdjffaaDoorOc
import Derived.Test.YtjgkaccmfdjffaaDoorWg
import Derived.Deep.DeepCutAuto
namespace Go.Proofs.YtjgkaccmfdjffaaDoor
set_option linter.unusedVariables false
set_option linter.unusedSimpArgs false
open Go.RowKit
namespace Nu
open Wd We Es
open Dm (Ds vl decs)

section
variable {P : Program} {ops : Array Oper} {Q : Exit → Act → World → Prop} {md : Region.Mode} {S : World → Prop} {held : List Nat}
theorem any_call9 (i : Nat) (d : Tmp) {o : Oper} {f : Nat} {L : Array Bool} {a : Act} {w : World} (hr : Region.ready md ops L = [i]) (ho : ops[i]? = some o) (hd : o.dst = some d) (hw : Region.wanted o (yielded ops a.tmps) = true)
    {fn : FuncId} {args : Array Value} (hrun : (execOp a.eval o).run P w = .ok (.enter fn args) w) {R : Ending → World → Prop} (hc : Calls P fn args w R)
    (h : ∀ e w', R e w' → ∃ v, e = .returned v ∧ (Late md ops held i ∨ S w') ∧ anyG P md ops Q S held f (L.setIfInBounds i true) (a.put (some d) v) w') : anyG P md ops Q S held (f + 1) L a w := by
  refine any_one i hr ho hw fun K' hK => ?_
  unfold Oper.wp
  rw [hrun, Oper.upon_enter]
  refine hc.mono ?_
  intro e w' he
  obtain ⟨v, rfl, h1, h2⟩ := h e w' he
  show K' (a.put o.dst v) w'
  rw [hd]; exact hK _ _ h1 h2
end
def isS9 : Value → Bool | .string s => decide (s.size ≤ 1000) | _ => false
/-- a table of short strings -/
def Tb9 (L n : Nat) (w : World) : Prop := ∀ i < n, ∃ s, w.cell? ⟨L, i, none⟩ = some (.string s) ∧ s.size ≤ 1000
theorem Tb9.below {L n : Nat} {w w' : World} (h : Tb9 L n w) (hb : Below w.heap.size w w') : Tb9 L n w' := fun i hi => by
  obtain ⟨s, hc, hs⟩ := h i hi
  exact ⟨s, (hb.cell (lt_of_cell hc)).trans hc, hs⟩
theorem tb9_new (w : World) (C : Array Value) (t : TypeId) {n : Nat} (h : C.all isS9 = true) (hn : C.size = n) : Tb9 w.heap.size n (w.alloc (.cells C t)) := fun i hi => by
  subst hn
  rw [cell_of_row _ _ _ _ _ _ (heap_alloc_new w _), Array.getElem?_eq_getElem hi]
  have := Array.all_eq_true.1 h i hi
  cases hv : C[i] with
  | string s => rw [hv] at this; exact ⟨s, rfl, of_decide_eq_true this⟩
  | _ => rw [hv] at this; cases this

set_option maxRecDepth 100000 in
set_option maxHeartbeats 8000000 in
theorem core_NumberNames (w : World) :
    Calls Tryd.prog 11 #[] w fun e w' => e = .returned (.bool true) ∧ Below w.heap.size w w' := by
  go_enter Tryd.func11, Tryd.ntmps11
  go_wp2
  go_loopw [2] (fun ix W => ∃ i : Nat, ix = .int .i64 i ∧ i ≤ 51 ∧ Hid (Tb9 w.heap.size 51 W) ∧ Hid (Below w.heap.size w W)) (fun ix _ => 51 - (intOf ix).toNat)
  case atStart =>
    refine ⟨0, rfl, by omega, Lib.hid (tb9_new w _ _ ?h1 ?h3), Lib.hid (below_alloc9 w _)⟩
    case h1 => decide +kernel
    case h3 => rfl
  case round =>
    obtain ⟨i, rfl, hi, hS, hB⟩ := hrel
    by_cases hi5 : i < 51
    · have i1 : (i : Int) < 51 := by omega
      go_wp2
      go_loopw [3] (fun kx W => ∃ k : Nat, kx = .int .i64 k ∧ k ≤ 51 ∧ Hid (Tb9 w.heap.size 51 W) ∧ Hid (Below w.heap.size w W)) (fun kx _ => 51 - (intOf kx).toNat)
      case atStart => exact ⟨0, rfl, by omega, hS, hB⟩
      case round =>
        obtain ⟨k, rfl, hk, hS2, hB2⟩ := hrel
        by_cases hk5 : k < 51
        · have i2 : (k : Int) < 51 := by omega
          obtain ⟨s, hcs, hss⟩ := hS2.out i hi5
          obtain ⟨t, hct, hts⟩ := hS2.out k hk5
          go_upto_region 8 with fail
          have HSS : wr.drew.cell? ⟨w.heap.size, i, none⟩ = some (.string s) ∧ wr.drew.cell? ⟨w.heap.size, k, none⟩ = some (.string t) := ⟨hcs, hct⟩
          refine region_calm (fun w' => w'.cell? ⟨w.heap.size, i, none⟩ = some (.string s) ∧ w'.cell? ⟨w.heap.size, k, none⟩ = some (.string t)) [0, 1, 2, 3, 4, 5, 6, 7, 9] (by kernel_rfl) ?_
          refine any_takeD 0 18 (.slice (some ⟨w.heap.size, 0, none⟩) 51 51) rfl rfl (by kernel_rfl) (by kernel_rfl) (by kernel_rfl) (by kernel_rfl) (fun _ _ _ h => h) (by rfl) ?_ HSS ?_
          · rintro w' ⟨q1, q2⟩; go_simp
          simp only [Act.put, List.setIfInBounds_toArray, List.set_cons_zero, List.set_cons_succ]
          refine any_takeD 1 19 (.int .i64 (i : Int)) rfl rfl (by kernel_rfl) (by kernel_rfl) (by kernel_rfl) (by kernel_rfl) (fun _ _ _ h => h) (by rfl) ?_ HSS ?_
          · rintro w' ⟨q1, q2⟩; go_simp
          simp only [Act.put, List.setIfInBounds_toArray, List.set_cons_zero, List.set_cons_succ]
          refine any_takeD 2 20 (.pointer (some ⟨w.heap.size, i, none⟩)) rfl rfl (by kernel_rfl) (by kernel_rfl) (by kernel_rfl) (by kernel_rfl) (fun _ _ _ h => h) (by rfl) ?_ HSS ?_
          · rintro w' ⟨q1, q2⟩; go_simp
          simp only [Act.put, List.setIfInBounds_toArray, List.set_cons_zero, List.set_cons_succ]
          refine any_takeD 3 21 (.string s) rfl rfl (by kernel_rfl) (by kernel_rfl) (by kernel_rfl) (by kernel_rfl) (fun _ _ _ h => h) (by rfl) ?_ HSS ?_
          · rintro w' ⟨q1, q2⟩; go_simp
          simp only [Act.put, List.setIfInBounds_toArray, List.set_cons_zero, List.set_cons_succ]
          refine any_takeD 4 22 (.slice (some ⟨w.heap.size, 0, none⟩) 51 51) rfl rfl (by kernel_rfl) (by kernel_rfl) (by kernel_rfl) (by kernel_rfl) (fun _ _ _ h => h) (by rfl) ?_ HSS ?_
          · rintro w' ⟨q1, q2⟩; go_simp
          simp only [Act.put, List.setIfInBounds_toArray, List.set_cons_zero, List.set_cons_succ]
          refine any_takeD 5 23 (.int .i64 (k : Int)) rfl rfl (by kernel_rfl) (by kernel_rfl) (by kernel_rfl) (by kernel_rfl) (fun _ _ _ h => h) (by rfl) ?_ HSS ?_
          · rintro w' ⟨q1, q2⟩; go_simp
          simp only [Act.put, List.setIfInBounds_toArray, List.set_cons_zero, List.set_cons_succ]
          refine any_takeD 6 24 (.pointer (some ⟨w.heap.size, k, none⟩)) rfl rfl (by kernel_rfl) (by kernel_rfl) (by kernel_rfl) (by kernel_rfl) (fun _ _ _ h => h) (by rfl) ?_ HSS ?_
          · rintro w' ⟨q1, q2⟩; go_simp
          simp only [Act.put, List.setIfInBounds_toArray, List.set_cons_zero, List.set_cons_succ]
          refine any_takeD 7 25 (.string t) rfl rfl (by kernel_rfl) (by kernel_rfl) (by kernel_rfl) (by kernel_rfl) (fun _ _ _ h => h) (by rfl) ?_ HSS ?_
          · rintro w' ⟨q1, q2⟩; go_simp
          simp only [Act.put, List.setIfInBounds_toArray, List.set_cons_zero, List.set_cons_succ]
          refine any_call9 8 26 (by kernel_rfl) rfl rfl (by rfl) (fn := 4) (args := #[.string s, .string t]) ?_ (walk_same s t wr.drew (by omega) (by omega)) ?_
          · go_simp
          rintro e w8 ⟨rfl, hb8⟩
          have hb9 : Below wr.heap.size wr w8 := (show Below wr.heap.size wr wr.drew from ⟨rfl, rfl, rfl, Nat.le_refl _, fun _ _ => rfl⟩).trans hb8
          have HS8 : w8.cell? ⟨w.heap.size, i, none⟩ = some (.string s) ∧ w8.cell? ⟨w.heap.size, k, none⟩ = some (.string t) := ⟨(hb9.cell (lt_of_cell hcs)).trans hcs, (hb9.cell (lt_of_cell hct)).trans hct⟩
          refine ⟨_, rfl, .inr HS8, ?_⟩
          simp only [Act.put, List.setIfInBounds_toArray, List.set_cons_zero, List.set_cons_succ]
          refine any_takeD 9 27 (.bool false) rfl rfl (by kernel_rfl) (by kernel_rfl) (by kernel_rfl) (by kernel_rfl) (fun _ _ _ h => h) (by rfl) ?_ HS8 ?_
          · rintro w' ⟨q1, q2⟩; go_simp
          simp only [Act.put, List.setIfInBounds_toArray, List.set_cons_zero, List.set_cons_succ]
          refine any_done (by kernel_rfl) ?_ _
          refine calm_normal ?_
          have HI8 := Lib.hid (hS2.out.below hb9)
          have HB8 := Lib.hid (ext9 hB2.out hb9)
          clear HSS HS8 hb8 hb9 hcs hct
          go_wp2
          exact ⟨⟨k + 1, by go_num, by omega, HI8, HB8⟩, by simp [intOf]; omega⟩
        · have i2 : ¬ (k : Int) < 51 := by omega
          clear hS hB
          go_wp2
          go_loopw [4] (fun ax W => ∃ a : Int, ax = .int .i64 a ∧ -1 ≤ a ∧ a ≤ 1002 ∧ Hid (Tb9 w.heap.size 51 W) ∧ Hid (Below w.heap.size w W)) (fun ax _ => (1003 - intOf ax).toNat)
          case atStart => exact ⟨-1, rfl, by omega, by omega, hS2, hB2⟩
          case round =>
            obtain ⟨a, rfl, ha0, ha1, hS3, hB3⟩ := hrel
            obtain ⟨s, hcs, hss⟩ := hS3.out i hi5
            have hsl := (lof_bs s).symm
            have hll := lof_len s
            have hlb := lof_byte s
            obtain ⟨c3, w3, kc, t3, b3⟩ := conv_back wr hsl hlb (by unfold maxLen; omega)
            rw [hll] at kc t3
            have hsz0 : s.size ≤ 9223372036854775807 := by omega
            have HR := Lib.hid ((core_NumberChecks num_ok _ _ _ _ a w3 t3 hlb (by omega) (by omega) (by omega)))
            have HINT := Lib.hid (walk_ints s wr (by omega))
            have H3 := Lib.hid (ext9 hB3.out b3)
            have HS3 := Lib.hid (hS3.out.below b3)
            clear hsl t3 b3 hlb hll
            obtain ⟨Z, hZ⟩ : ∃ Z, s.size = Z := ⟨_, rfl⟩
            rw [hZ] at kc HR hss hsz0
            have hZ2 := Lib.hid hZ
            by_cases haz : a < (Z : Int) + 2
            · go_wp2_with fail
              refine HR.out.mono ?_
              rintro e w4 ⟨rfl, b4⟩
              have H4 := Lib.hid (ext9 H3.out b4)
              have HS4 := Lib.hid (HS3.out.below b4)
              clear b4 kc hcs
              go_wp2
              exact ⟨⟨a + 1, by go_num, by omega, by omega, HS4, H4⟩, by simp [intOf]; omega⟩
            · clear kc
              go_wp2_with fail
              refine HINT.out.mono ?_
              rintro e w4 ⟨rfl, b4⟩
              have H4 := Lib.hid (ext9 hB3.out b4)
              have HS4 := Lib.hid (hS3.out.below b4)
              clear b4 hcs
              go_wp2
              exact ⟨⟨i + 1, by go_num, by omega, HS4, H4⟩, by simp [intOf]; omega⟩
    · have i1 : ¬ (i : Int) < 51 := by omega
      go_wp2_with fail
      refine (awake9 num_ok wr).mono ?_
      rintro e w7 ⟨rfl, b7⟩
      have H7 := Lib.hid (ext9 hB.out b7)
      clear b7
      go_wp2
      go_ret
      exact ⟨rfl, H7.out⟩
end Nu
end Go.Proofs.YtjgkaccmfdjffaaDoor
