/-
  The walk of EscapeNames, relative to what the program's Quote and Unquote answer.
-/
import Derived.Test.YtjkaccmhpilojaaEk
import Derived.Test.YtjkaccmhpilojaaWg
import Derived.Deep.DeepCutAuto
namespace Go.Proofs.Ytjkaccmhpilojaa
set_option linter.unusedVariables false
set_option linter.unusedSimpArgs false
open Go.RowKit
namespace Em
open Wd We Utf Es Wi Wf Wr

section
variable {P : Program} {ops : Array Oper} {Q : Exit → Act → World → Prop} {md : Region.Mode} {S : World → Prop} {held : List Nat}
theorem any_callD (i : Nat) (d : Tmp) {o : Oper} {f : Nat} {L : Array Bool} {a : Act} {w : World} (hr : Region.ready md ops L = [i]) (ho : ops[i]? = some o) (hd : o.dst = some d) (hw : Region.wanted o (yielded ops a.tmps) = true)
    {fn : FuncId} {args : Array Value} (hrun : (execOp a.eval o).run P w = .ok (.enter fn args) w) {R : Ending → World → Prop} (hc : Calls P fn args w R)
    (h : ∀ e w', R e w' → ∃ v, e = .returned v ∧ (Late md ops held i ∨ S w') ∧ anyG P md ops Q S held f (L.setIfInBounds i true) (a.put (some d) v) w') : anyG P md ops Q S held (f + 1) L a w := by
  refine any_one i hr ho hw fun K' hK => ?_
  unfold Oper.wp
  rw [hrun, Oper.upon_enter]
  refine hc.mono ?_
  intro e w' he
  obtain ⟨v, rfl, h1, h2⟩ := h e w' he
  show K' (a.put o.dst v) w'
  rw [hd]; exact hK _ _ h1 h2
end
def isS : Value → Bool | .string s => decide (s.size ≤ 1000) | _ => false
def isI : Value → Bool | .int .i64 m => decide (-9223372036854775808 ≤ m ∧ m ≤ 9223372036854775807) | _ => false
/-- a table of short strings in block L; one of ints in block M -/
def TbS (L n : Nat) (w : World) : Prop := ∀ i < n, ∃ s, w.cell? ⟨L, i, none⟩ = some (.string s) ∧ s.size ≤ 1000
def TbI (M n : Nat) (w : World) : Prop := ∀ k < n, ∃ m, w.cell? ⟨M, k, none⟩ = some (.int .i64 m) ∧ -9223372036854775808 ≤ m ∧ m ≤ 9223372036854775807
theorem TbS.below {L n : Nat} {w w' : World} (h : TbS L n w) (hb : Below w.heap.size w w') : TbS L n w' := fun i hi => by
  obtain ⟨s, hc, hs⟩ := h i hi
  exact ⟨s, (hb.cell (lt_of_cell hc)).trans hc, hs⟩
theorem TbI.below {L n : Nat} {w w' : World} (h : TbI L n w) (hb : Below w.heap.size w w') : TbI L n w' := fun i hi => by
  obtain ⟨s, hc, hs⟩ := h i hi
  exact ⟨s, (hb.cell (lt_of_cell hc)).trans hc, hs⟩
theorem tbS_new (w : World) (C : Array Value) (t : TypeId) {n : Nat} (h : C.all isS = true) (hn : C.size = n) : TbS w.heap.size n (w.alloc (.cells C t)) := fun i hi => by
  subst hn
  rw [cell_of_row _ _ _ _ _ _ (heap_alloc_new w _), Array.getElem?_eq_getElem hi]
  have := Array.all_eq_true.1 h i hi
  cases hv : C[i] with
  | string s => rw [hv] at this; exact ⟨s, rfl, of_decide_eq_true this⟩
  | _ => rw [hv] at this; cases this
theorem tbI_new (w : World) (C : Array Value) (t : TypeId) {n : Nat} (h : C.all isI = true) (hn : C.size = n) : TbI w.heap.size n (w.alloc (.cells C t)) := fun i hi => by
  subst hn
  rw [cell_of_row _ _ _ _ _ _ (heap_alloc_new w _), Array.getElem?_eq_getElem hi]
  have := Array.all_eq_true.1 h i hi
  revert this
  generalize C[i] = v
  intro this
  unfold isI at this
  split at this
  · exact ⟨_, rfl, of_decide_eq_true this⟩
  · cases this


set_option maxRecDepth 100000 in
set_option maxHeartbeats 8000000 in
theorem core_EscapeNames (HU : UnqOk) (HQ : QuoOk) (w : World) : Calls Try.prog 9 #[] w fun e w' => e = .returned (.bool true) ∧ Below w.heap.size w w' := by
  go_enter Try.func9, Try.ntmps9
  go_wp2
  go_loopw [1] (fun cx wr => ∃ c : Nat, cx = .int .i64 c ∧ c ≤ 300 ∧ Hid (Below w.heap.size w wr)) (fun cx _ => 300 - (intOf cx).toNat)
  case atStart => exact ⟨0, rfl, by omega, Lib.hid (Below.refl _ _)⟩
  case round =>
    obtain ⟨c, rfl, hc, hB⟩ := hrel
    by_cases hc3 : c < 300
    · have i1 : (c : Int) < 300 := by omega
      have hf : form (c : Int) ≠ 0 := by have := form_cases (c : Int); omega
      have hl4 : (enc (c : Int)).length ≤ 4 := by have := enc_length (c : Int); have := form_cases (c : Int); omega
      have ENC := Lib.hid (rencode_ok (c : Int) hf wr)
      obtain ⟨w1, hw1⟩ : ∃ w1, wr.alloc (.cells (Wr.bs (enc (c : Int))) 5) = w1 := ⟨_, rfl⟩
      have SE : Sl .u8 w1 (some ⟨wr.heap.size, 0, none⟩) (enc (c : Int)).length (enc (c : Int)).length (enc (c : Int)) := by rw [← hw1]; exact Sl.new wr (enc (c : Int)) 5 .u8 (by unfold maxLen; omega)
      have hb1 : Below wr.heap.size wr w1 := by rw [← hw1]; exact Dd2.below_alloc _ _
      rw [hw1] at ENC
      have kb := conv_bs SE
      have hsz : (Dm.bs (enc (c : Int))).size ≤ 20000000000000 := by rw [Dm.bs_size]; omega
      have Q1 := Lib.hid (core_EscapeQuotes HU HQ (Dm.bs (enc (c : Int))) hsz w1)
      have H1 := Lib.hid (ext_trans8 hB.out hb1)
      obtain ⟨d, hd⟩ : ∃ d, (c : Int) % 256 = d := ⟨_, rfl⟩
      have hd0 : 0 ≤ d ∧ d ≤ 255 := by omega
      have RD : Hid (∀ (w' : World) (L : List Int), IsB L → L.length ≤ 100 → Calls Try.prog 4 #[.slice (some ⟨w'.heap.size, 0, none⟩) L.length L.length, .int .i64 0] (w'.alloc (.cells (L.map (Value.int .u8)).toArray 5)) fun e w2 => e = .returned (.bool true) ∧ Below w'.heap.size w' w2) := Lib.hid (fun w' L hL hn =>
        (core_EscapeReads HU HQ _ _ _ _ 0 _ (Sl.new w' L 5 .u8 (by unfold maxLen; omega)) hL (by omega) (by omega) (by omega)).mono (by
          rintro e w2 ⟨rfl, h⟩; exact ⟨rfl, ext_trans8 (Dd2.below_alloc _ _) h⟩))
      clear hf hl4 SE hb1 hsz hw1
      go_wp2_with fail
      refine ENC.out.mono ?_
      rintro e w2 ⟨rfl, rfl⟩
      go_wp2_with fail
      refine Q1.out.mono ?_
      rintro e w3 ⟨rfl, b3⟩
      have H3 := Lib.hid (ext_trans8 H1.out b3)
      clear b3 kb
      go_wp2_with fail
      refine (RD.out w3 [34, 92, d, 34] (fun x hx => by simp at hx; omega) (by simp)).mono ?_
      rintro e w4 ⟨rfl, b4⟩
      have H4 := Lib.hid (ext_trans8 H3.out b4)
      clear b4
      go_wp2_with fail
      refine (RD.out w4 [34, d, 34] (fun x hx => by simp at hx; omega) (by simp)).mono ?_
      rintro e w5 ⟨rfl, b5⟩
      have H5 := Lib.hid (ext_trans8 H4.out b5)
      clear b5
      go_wp2_with fail
      refine (RD.out w5 [34, 92, 117, 48, d, 65, 102, 34] (fun x hx => by simp at hx; omega) (by simp)).mono ?_
      rintro e w6 ⟨rfl, b6⟩
      have H6 := Lib.hid (ext_trans8 H5.out b6)
      clear b6
      go_wp2
      exact ⟨⟨c + 1, by go_num, by omega, H6⟩, by simp [intOf]; omega⟩
    · have i1 : ¬ (c : Int) < 300 := by omega
      obtain ⟨w0, hw0⟩ : ∃ w0, wr = w0 := ⟨_, rfl⟩
      rw [hw0] at hB ⊢
      clear hw0
      go_wp2
      go_loopw [5] (fun ix W => ∃ k : Nat, ix = .int .i64 k ∧ k ≤ 24 ∧ Hid (TbS w0.heap.size 24 W) ∧ Hid (Below w.heap.size w W)) (fun ix _ => 24 - (intOf ix).toNat)
      case atStart =>
        refine ⟨0, rfl, by omega, Lib.hid (tbS_new w0 _ _ ?h1 ?h3), Lib.hid (ext_trans8 hB.out (Dd2.below_alloc w0 _))⟩
        case h1 => decide +kernel
        case h3 => rfl
      case round =>
        obtain ⟨k, rfl, hk, hS, hB2⟩ := hrel
        by_cases hk6 : k < 24
        · have i2 : (k : Int) < 24 := by omega
          go_wp2
          go_loopw [6] (fun ax W => ∃ a : Int, ax = .int .i64 a ∧ -1 ≤ a ∧ a ≤ 1002 ∧ Hid (TbS w0.heap.size 24 W) ∧ Hid (Below w.heap.size w W)) (fun ax _ => (1003 - intOf ax).toNat)
          case atStart => exact ⟨-1, rfl, by omega, by omega, hS, hB2⟩
          case round =>
            obtain ⟨a, rfl, ha0, ha1, hS3, hB3⟩ := hrel
            obtain ⟨s, hcs, hss⟩ := hS3.out k hk6
            have hsl := bs_lof8 s
            have hll := lof8_length s
            have hlb := lof8_byte s
            obtain ⟨c3, w3, kc, t3, b3⟩ := conv_back wr hsl hlb (by unfold maxLen; omega)
            rw [hll] at kc t3
            have hsz0 : s.size ≤ 9223372036854775807 := by omega
            have HR := Lib.hid ((core_EscapeReads HU HQ _ _ _ _ a w3 t3 hlb (by omega) (by omega) (by omega)))
            have H3 := Lib.hid (ext_trans8 hB3.out b3)
            have HS3 := Lib.hid (hS3.out.below b3)
            clear hsl t3 b3 hlb hll
            generalize hZ : s.size = Z at *
            by_cases haz : a < (Z : Int) + 2
            · go_wp2_with fail
              refine HR.out.mono ?_
              rintro e w4 ⟨rfl, b4⟩
              have H4 := Lib.hid (ext_trans8 H3.out b4)
              have HS4 := Lib.hid (HS3.out.below b4)
              clear b4 kc hcs
              go_wp2
              exact ⟨⟨a + 1, by go_num, by omega, by omega, HS4, H4⟩, by simp [intOf]; omega⟩
            · clear kc
              go_wp2
              exact ⟨⟨k + 1, by go_num, by omega, hS3, hB3⟩, by simp [intOf]; omega⟩
        · have i2 : ¬ (k : Int) < 24 := by omega
          obtain ⟨w5, hw5⟩ : ∃ w5, wr = w5 := ⟨_, rfl⟩
          rw [hw5] at hB2 ⊢
          clear hw5 hS
          go_wp2
          go_loopw [8] (fun ix W => ∃ i : Nat, ix = .int .i64 i ∧ i ≤ 7 ∧ Hid (TbI w5.heap.size 7 W) ∧ Hid (Below w.heap.size w W)) (fun ix _ => 7 - (intOf ix).toNat)
          case atStart =>
            refine ⟨0, rfl, by omega, Lib.hid (tbI_new w5 _ _ ?h1 ?h3), Lib.hid (ext_trans8 hB2.out (Dd2.below_alloc w5 _))⟩
            case h1 => decide +kernel
            case h3 => rfl
          case round =>
            obtain ⟨i, rfl, hi, hI, hB4⟩ := hrel
            by_cases hi7 : i < 7
            · have i3 : (i : Int) < 7 := by omega
              go_wp2
              go_loopw [9] (fun jx W => ∃ j : Nat, jx = .int .i64 j ∧ j ≤ 7 ∧ Hid (TbI w5.heap.size 7 W) ∧ Hid (Below w.heap.size w W)) (fun jx _ => 7 - (intOf jx).toNat)
              case atStart => exact ⟨0, rfl, by omega, hI, hB4⟩
              case round =>
                obtain ⟨j, rfl, hj, hI5, hB5⟩ := hrel
                by_cases hj7 : j < 7
                · have i4 : (j : Int) < 7 := by omega
                  obtain ⟨x, hcx, hx0, hx1⟩ := hI5.out i hi7
                  obtain ⟨y, hcy, hy0, hy1⟩ := hI5.out j hj7
                  go_upto_region 23 with fail
                  have HSS : wr.drew.cell? ⟨w5.heap.size, i, none⟩ = some (.int .i64 x) ∧ wr.drew.cell? ⟨w5.heap.size, j, none⟩ = some (.int .i64 y) := ⟨hcx, hcy⟩
                  have hlt := lt_of_cell hcx
                  refine region_calm (fun w' => w'.cell? ⟨w5.heap.size, i, none⟩ = some (.int .i64 x) ∧ w'.cell? ⟨w5.heap.size, j, none⟩ = some (.int .i64 y)) [0, 1, 2, 3, 4, 5, 6, 7, 9] (by kernel_rfl) ?_
                  refine any_takeD 0 82 (.slice (some ⟨w5.heap.size, 0, none⟩) 7 7) rfl rfl (by kernel_rfl) (by kernel_rfl) (by kernel_rfl) (by kernel_rfl) (fun _ _ _ h => h) (by rfl) ?_ HSS ?_
                  · rintro w' ⟨q1, q2⟩; go_simp
                  simp only [Act.put, List.setIfInBounds_toArray, List.set_cons_zero, List.set_cons_succ]
                  refine any_takeD 1 83 (.int .i64 (i : Int)) rfl rfl (by kernel_rfl) (by kernel_rfl) (by kernel_rfl) (by kernel_rfl) (fun _ _ _ h => h) (by rfl) ?_ HSS ?_
                  · rintro w' ⟨q1, q2⟩; go_simp
                  simp only [Act.put, List.setIfInBounds_toArray, List.set_cons_zero, List.set_cons_succ]
                  refine any_takeD 2 84 (.pointer (some ⟨w5.heap.size, i, none⟩)) rfl rfl (by kernel_rfl) (by kernel_rfl) (by kernel_rfl) (by kernel_rfl) (fun _ _ _ h => h) (by rfl) ?_ HSS ?_
                  · rintro w' ⟨q1, q2⟩; go_simp
                  simp only [Act.put, List.setIfInBounds_toArray, List.set_cons_zero, List.set_cons_succ]
                  refine any_takeD 3 85 (.int .i64 x) rfl rfl (by kernel_rfl) (by kernel_rfl) (by kernel_rfl) (by kernel_rfl) (fun _ _ _ h => h) (by rfl) ?_ HSS ?_
                  · rintro w' ⟨q1, q2⟩; go_simp
                  simp only [Act.put, List.setIfInBounds_toArray, List.set_cons_zero, List.set_cons_succ]
                  refine any_takeD 4 86 (.slice (some ⟨w5.heap.size, 0, none⟩) 7 7) rfl rfl (by kernel_rfl) (by kernel_rfl) (by kernel_rfl) (by kernel_rfl) (fun _ _ _ h => h) (by rfl) ?_ HSS ?_
                  · rintro w' ⟨q1, q2⟩; go_simp
                  simp only [Act.put, List.setIfInBounds_toArray, List.set_cons_zero, List.set_cons_succ]
                  refine any_takeD 5 87 (.int .i64 (j : Int)) rfl rfl (by kernel_rfl) (by kernel_rfl) (by kernel_rfl) (by kernel_rfl) (fun _ _ _ h => h) (by rfl) ?_ HSS ?_
                  · rintro w' ⟨q1, q2⟩; go_simp
                  simp only [Act.put, List.setIfInBounds_toArray, List.set_cons_zero, List.set_cons_succ]
                  refine any_takeD 6 88 (.pointer (some ⟨w5.heap.size, j, none⟩)) rfl rfl (by kernel_rfl) (by kernel_rfl) (by kernel_rfl) (by kernel_rfl) (fun _ _ _ h => h) (by rfl) ?_ HSS ?_
                  · rintro w' ⟨q1, q2⟩; go_simp
                  simp only [Act.put, List.setIfInBounds_toArray, List.set_cons_zero, List.set_cons_succ]
                  refine any_takeD 7 89 (.int .i64 y) rfl rfl (by kernel_rfl) (by kernel_rfl) (by kernel_rfl) (by kernel_rfl) (fun _ _ _ h => h) (by rfl) ?_ HSS ?_
                  · rintro w' ⟨q1, q2⟩; go_simp
                  simp only [Act.put, List.setIfInBounds_toArray, List.set_cons_zero, List.set_cons_succ]
                  refine any_callD 8 90 (by kernel_rfl) rfl rfl (by rfl) (fn := 8) (args := #[.int .i64 x, .int .i64 y, .int .i64 255]) ?_ (core_EscapePairs HU HQ x y 255 wr.drew hx0 hx1 hy0 hy1 (by omega) (by omega)) ?_
                  · go_simp
                  rintro e w8 ⟨rfl, hb8⟩
                  have hb9 : Below wr.heap.size wr w8 := (show Below wr.heap.size wr wr.drew from ⟨rfl, rfl, rfl, Nat.le_refl _, fun _ _ => rfl⟩).trans hb8
                  have HS8 : w8.cell? ⟨w5.heap.size, i, none⟩ = some (.int .i64 x) ∧ w8.cell? ⟨w5.heap.size, j, none⟩ = some (.int .i64 y) := ⟨(hb9.cell (lt_of_cell hcx)).trans hcx, (hb9.cell (lt_of_cell hcy)).trans hcy⟩
                  refine ⟨_, rfl, .inr HS8, ?_⟩
                  simp only [Act.put, List.setIfInBounds_toArray, List.set_cons_zero, List.set_cons_succ]
                  refine any_takeD 9 91 (.bool false) rfl rfl (by kernel_rfl) (by kernel_rfl) (by kernel_rfl) (by kernel_rfl) (fun _ _ _ h => h) (by rfl) ?_ HS8 ?_
                  · rintro w' ⟨q1, q2⟩; go_simp
                  simp only [Act.put, List.setIfInBounds_toArray, List.set_cons_zero, List.set_cons_succ]
                  refine any_done (by kernel_rfl) ?_ _
                  refine calm_normal ?_
                  have HI8 := Lib.hid (hI5.out.below hb9)
                  have HB8 := Lib.hid (ext_trans8 hB5.out hb9)
                  clear HSS HS8 hb8 hb9 hcx hcy hlt
                  go_wp2
                  exact ⟨⟨j + 1, by go_num, by omega, HI8, HB8⟩, by simp [intOf]; omega⟩
                · have i4 : ¬ (j : Int) < 7 := by omega
                  go_wp2
                  exact ⟨⟨i + 1, by go_num, by omega, hI5, hB5⟩, by simp [intOf]; omega⟩
            · have i3 : ¬ (i : Int) < 7 := by omega
              go_wp2_with fail
              refine (awake8 HU HQ wr).mono ?_
              rintro e w7 ⟨rfl, b7⟩
              have H7 := Lib.hid (ext_trans8 hB4.out b7)
              clear b7
              go_wp2_with fail
              refine (core_EscapeQuotes HU HQ _ (by decide) w7).mono ?_
              rintro e w8 ⟨rfl, b8⟩
              have H8 := Lib.hid (ext_trans8 H7.out b8)
              clear b8
              go_wp2_with fail
              refine (core_EscapeQuotes HU HQ _ (by decide) w8).mono ?_
              rintro e w9 ⟨rfl, b9⟩
              have H9 := Lib.hid (ext_trans8 H8.out b9)
              clear b9
              go_wp2
              go_ret
              exact ⟨rfl, H9.out⟩
end Em
end Go.Proofs.Ytjkaccmhpilojaa
