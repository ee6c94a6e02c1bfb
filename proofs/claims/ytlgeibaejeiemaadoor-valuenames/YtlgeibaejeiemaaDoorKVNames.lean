/-
  The walk of ValueNames.
-/
import Derived.Test.YtlgeibaejeiemaaDoorKVChecks
import Derived.Test.YtlgeibaejeiemaaDoorKVEquals
import Derived.Test.YtlgeibaejeiemaaDoorKVGets
import Derived.Test.YtlgeibaejeiemaaDoorKVMakes
import Derived.Test.YtlgeibaejeiemaaDoorKVDeep
import Derived.Test.YtlgeibaejeiemaaDoorVxb
namespace Go.Proofs.YtlgeibaejeiemaaDoor
set_option linter.unusedVariables false
set_option linter.unusedSimpArgs false
open Go.RowKit
open Wd We Vt

set_option maxRecDepth 100000 in
set_option maxHeartbeats 16000000 in
theorem walk_ValueNames  (w : World) (tab : It.Tab w) :
    Calls Tryd.prog 12 #[] w fun e w' => e = .returned (.bool true) ∧ Below w.heap.size w w' := by
  have TB := Lib.hid (fun (w' : World) (h : Below w.heap.size w w') => tab.below h)
  have C1 := Lib.hid (number_any 1 (by omega) (by omega) w tab)
  clear tab
  go_enter Tryd.func12, Tryd.ntmps12
  go_wp2_with fail
  refine C1.out.mono ?_
  rintro e w1 ⟨rfl, hb1⟩
  rw [numT_1]
  obtain ⟨QS, hQS⟩ : ∃ Q, w1.heap.size = Q := ⟨_, rfl⟩
  obtain ⟨W2, hW2⟩ : ∃ W, w1.alloc (.cells #[.int .i64 2, .bool false, .string ⟨#[49]⟩, .slice none 0 0, .slice none 0 0] 25) = W := ⟨_, rfl⟩
  have b2 : Below w1.heap.size w1 W2 := by rw [← hW2]; exact below_allocV w1 _
  have hvl : VL W2 (some ⟨QS, 0, none⟩) 1 1 [.mk 2 false ⟨#[49]⟩ [] []] := VL.one_at (by rw [← hW2, ← hQS]; exact heap_alloc_new w1 _) (vl_plain W2 (k := 2) false (s := ⟨#[49]⟩) ⟨by omega, by omega⟩ (by decide))
  have HVL := Lib.hid hvl
  have B2 := Lib.hid (extV hb1 b2)
  have HW2 := Lib.hid hW2
  have HQS := Lib.hid hQS
  have SM1 : Hid (Sm (.mk 2 false ⟨#[49]⟩ [] [])) := Lib.hid (sm_plain _ _ _)
  clear hb1 b2 hvl hW2 hQS
  go_upto_region 2 with fail
  rw [HW2.out, HQS.out]
  go_wp2_with fail
  go_loopw [2] (fun kv wr => ∃ c : Nat, kv = .int .i64 ((c : Int) - 1) ∧ c ≤ 9 ∧ Hid (Below W2.heap.size W2 wr)) (fun kv _ => 9 - (intOf kv + 1).toNat)
  case atStart => exact ⟨0, rfl, by omega, Lib.hid (Below.refl _ _)⟩
  case round =>
    obtain ⟨c, rfl, hc9, hK⟩ := hrel
    by_cases hcn : c < 9
    · have c1 : (c : Int) - 1 < 8 := by omega
      go_wp2_with fail
      go_loopw [3] (fun bv wr2 => ∃ b : Nat, bv = .int .i64 b ∧ b ≤ 16 ∧ Hid (Below W2.heap.size W2 wr2)) (fun bv _ => 16 - (intOf bv).toNat)
      case atStart => exact ⟨0, rfl, by omega, hK⟩
      case round =>
        clear hK
        obtain ⟨b, rfl, hb16, hB⟩ := hrel
        by_cases hbn : b < 16
        · have b1 : (b : Int) < 16 := by omega
          obtain ⟨B1, hB1⟩ : ∃ v, (bits .and .i64 (b : Int) 1 == 1) = v := ⟨_, rfl⟩
          obtain ⟨R4, hR4⟩ : ∃ R, wr.heap.size = R := ⟨_, rfl⟩
          obtain ⟨W8, hW8⟩ : ∃ W, wr.alloc (.cells #[.int .i64 ((c : Int) - 1), .bool B1, .string ⟨#[]⟩, .slice none 0 0, .slice none 0 0] 25) = W := ⟨_, rfl⟩
          have b8 : Below wr.heap.size wr W8 := by rw [← hW8]; exact below_allocV wr _
          have hx : Bx W8 R4 (.int .i64 ((c : Int) - 1)) (.bool B1) (.string ⟨#[]⟩) (.slice none 0 0) (.slice none 0 0) := by rw [← hW8, ← hR4]; exact heap_alloc_new wr _
          have hbx : Below W2.heap.size W2 W8 := hB.out.trans (b8.mono hB.out.size)
          have hRw : W2.heap.size ≤ R4 := by have := hB.out.size; omega
          have HR4 := Lib.hid hR4
          have HW8 := Lib.hid hW8
          have HB1 := Lib.hid hB1
          clear b8 hR4 hW8 hB1
          go_upto_region 9 with fail
          rw [HB1.out, HW8.out, HR4.out]
          cases h2 : (bits .and .i64 (b : Int) 2 == 2) with
          | false =>
            cases h4 : (bits .and .i64 (b : Int) 4 == 4) with
            | false =>
              cases h8 : (bits .and .i64 (b : Int) 8 == 8) with
              | false =>
                have hv0 : Vl W8 (.agg #[.int .i64 ((c : Int) - 1), .bool B1, .string ⟨#[]⟩, .slice none 0 0, .slice none 0 0]) (.mk ((c : Int) - 1) B1 ⟨#[]⟩ [] []) := Vl.shut (t := (.mk ((c : Int) - 1) B1 ⟨#[]⟩ [] [])) (VL.none_ W8) (Nm.none_ W8) (show (-9223372036854775808 : Int) ≤ (c : Int) - 1 ∧ (c : Int) - 1 ≤ 9223372036854775807 by omega) (show ByteArray.size ⟨#[]⟩ ≤ 140737488351232 by decide)
                have hsm : Sm (.mk ((c : Int) - 1) B1 ⟨#[]⟩ [] []) := Sm.mk (fun x hx => by cases hx) (fun x hx => by cases hx)
                have BWV : Below w.heap.size w W8 := B2.out.trans (hbx.mono B2.out.size)
                have px := hx
                clear hx
                go_upto_region 15 with fail
                have hsz1 : (⟨#[110]⟩ : ByteArray).size ≤ 140737488351232 := by decide
                have HSS : Bx W8.drew R4 (.int .i64 ((c : Int) - 1)) (.bool B1) (.string ⟨#[]⟩) (.slice none 0 0) (.slice none 0 0) := Bx.same px rfl
                refine region_calm (fun w' => Bx w' R4 (.int .i64 ((c : Int) - 1)) (.bool B1) (.string ⟨#[]⟩) (.slice none 0 0) (.slice none 0 0)) [4, 22, 24] (by kernel_rfl) ?_
                have rk0 : Below W8.heap.size W8 W8.drew := ⟨rfl, rfl, rfl, Nat.le_refl _, fun _ _ => rfl⟩
                refine any_runD 0 37 (.agg #[.int .i64 ((c : Int) - 1), .bool B1, .string ⟨#[]⟩, .slice none 0 0, .slice none 0 0]) W8.drew (by kernel_rfl) rfl rfl (by rfl) ?_ (.inr HSS) ?_
                · have za := HSS
                  have za_0 := za.c0; have za_1 := za.c1; have za_2 := za.c2; have za_3 := za.c3; have za_4 := za.c4
                  go_simp
                simp only [Act.put, List.setIfInBounds_toArray, List.set_cons_zero, List.set_cons_succ]
                refine any_callV 1 38 (by kernel_rfl) rfl rfl (by rfl) (fn := 3) (args := #[.agg #[.int .i64 ((c : Int) - 1), .bool B1, .string ⟨#[]⟩, .slice none 0 0, .slice none 0 0]]) ?_ (walk_ValueChecks _ (.mk ((c : Int) - 1) B1 ⟨#[]⟩ [] []) W8.drew (Vl.up rk0 _ hv0) hsm (TB.out W8.drew (extV BWV rk0))) ?_
                · go_simp
                rintro e r1 ⟨rfl, hr1⟩
                have rk1 := extV rk0 hr1
                have HSS : Bx r1 R4 (.int .i64 ((c : Int) - 1)) (.bool B1) (.string ⟨#[]⟩) (.slice none 0 0) (.slice none 0 0) := HSS.below hr1 HSS.lt
                refine ⟨_, rfl, .inr HSS, ?_⟩
                simp only [Act.put, List.setIfInBounds_toArray, List.set_cons_zero, List.set_cons_succ]
                refine any_runD 2 39 (.bool false) r1 (by kernel_rfl) rfl rfl (by rfl) ?_ (.inr HSS) ?_
                · have za := HSS
                  have za_0 := za.c0; have za_1 := za.c1; have za_2 := za.c2; have za_3 := za.c3; have za_4 := za.c4
                  go_simp
                simp only [Act.put, List.setIfInBounds_toArray, List.set_cons_zero, List.set_cons_succ]
                refine any_runD 3 40 (.bool false) r1 (by kernel_rfl) rfl rfl (by rfl) ?_ (.inr HSS) ?_
                · have za := HSS
                  have za_0 := za.c0; have za_1 := za.c1; have za_2 := za.c2; have za_3 := za.c3; have za_4 := za.c4
                  go_simp
                simp only [Act.put, List.setIfInBounds_toArray, List.set_cons_zero, List.set_cons_succ]
                refine any_takeD 4 41 (.agg #[.int .i64 ((c : Int) - 1), .bool B1, .string ⟨#[]⟩, .slice none 0 0, .slice none 0 0]) rfl rfl (by kernel_rfl) (by kernel_rfl) (by kernel_rfl) (by kernel_rfl) (fun _ _ _ h => h) (by rfl) ?_ HSS ?_
                · intro w' hS
                  have za := hS
                  have za_0 := za.c0; have za_1 := za.c1; have za_2 := za.c2; have za_3 := za.c3; have za_4 := za.c4
                  go_simp
                simp only [Act.put, List.setIfInBounds_toArray, List.set_cons_zero, List.set_cons_succ]
                refine any_runD 5 42 (.int .i64 ((c : Int) - 1)) r1 (by kernel_rfl) rfl rfl (by rfl) ?_ (.inr HSS) ?_
                · have za := HSS
                  have za_0 := za.c0; have za_1 := za.c1; have za_2 := za.c2; have za_3 := za.c3; have za_4 := za.c4
                  go_simp
                simp only [Act.put, List.setIfInBounds_toArray, List.set_cons_zero, List.set_cons_succ]
                refine any_runD 6 43 (.agg #[.int .i64 ((c : Int) - 1), .bool false, .string ⟨#[]⟩, .slice none 0 0, .slice none 0 0]) r1 (by kernel_rfl) rfl rfl (by rfl) ?_ (.inr HSS) ?_
                · have za := HSS
                  have za_0 := za.c0; have za_1 := za.c1; have za_2 := za.c2; have za_3 := za.c3; have za_4 := za.c4
                  go_simp
                simp only [Act.put, List.setIfInBounds_toArray, List.set_cons_zero, List.set_cons_succ]
                refine any_callV 7 44 (by kernel_rfl) rfl rfl (by rfl) (fn := 4) (args := #[.agg #[.int .i64 ((c : Int) - 1), .bool B1, .string ⟨#[]⟩, .slice none 0 0, .slice none 0 0], .agg #[.int .i64 ((c : Int) - 1), .bool false, .string ⟨#[]⟩, .slice none 0 0, .slice none 0 0]]) ?_ (walk_ValueEquals _ (.mk ((c : Int) - 1) B1 ⟨#[]⟩ [] []) _ (.mk ((c : Int) - 1) false ⟨#[]⟩ [] []) r1 (Vl.up rk1 _ hv0) hsm (vl_plain r1 false (s := ⟨#[]⟩) ⟨by omega, by omega⟩ (by decide)) (sm_plain _ _ _) (TB.out r1 (extV BWV rk1))) ?_
                · go_simp
                rintro e r2 ⟨rfl, hr2⟩
                have rk2 := extV rk1 hr2
                have HSS : Bx r2 R4 (.int .i64 ((c : Int) - 1)) (.bool B1) (.string ⟨#[]⟩) (.slice none 0 0) (.slice none 0 0) := HSS.below hr2 HSS.lt
                refine ⟨_, rfl, .inr HSS, ?_⟩
                simp only [Act.put, List.setIfInBounds_toArray, List.set_cons_zero, List.set_cons_succ]
                refine any_runD 8 45 (.bool false) r2 (by kernel_rfl) rfl rfl (by rfl) ?_ (.inr HSS) ?_
                · have za := HSS
                  have za_0 := za.c0; have za_1 := za.c1; have za_2 := za.c2; have za_3 := za.c3; have za_4 := za.c4
                  go_simp
                simp only [Act.put, List.setIfInBounds_toArray, List.set_cons_zero, List.set_cons_succ]
                refine any_runD 9 46 (.bool false) r2 (by kernel_rfl) rfl rfl (by rfl) ?_ (.inr HSS) ?_
                · have za := HSS
                  have za_0 := za.c0; have za_1 := za.c1; have za_2 := za.c2; have za_3 := za.c3; have za_4 := za.c4
                  go_simp
                simp only [Act.put, List.setIfInBounds_toArray, List.set_cons_zero, List.set_cons_succ]
                refine any_runD 10 47 (.bool false) r2 (by kernel_rfl) rfl rfl (by rfl) ?_ (.inr HSS) ?_
                · have za := HSS
                  have za_0 := za.c0; have za_1 := za.c1; have za_2 := za.c2; have za_3 := za.c3; have za_4 := za.c4
                  go_simp
                simp only [Act.put, List.setIfInBounds_toArray, List.set_cons_zero, List.set_cons_succ]
                refine any_runD 11 48 (.agg #[.int .i64 ((c : Int) - 1), .bool B1, .string ⟨#[]⟩, .slice none 0 0, .slice none 0 0]) r2 (by kernel_rfl) rfl rfl (by rfl) ?_ (.inr HSS) ?_
                · have za := HSS
                  have za_0 := za.c0; have za_1 := za.c1; have za_2 := za.c2; have za_3 := za.c3; have za_4 := za.c4
                  go_simp
                simp only [Act.put, List.setIfInBounds_toArray, List.set_cons_zero, List.set_cons_succ]
                refine any_callV 12 49 (by kernel_rfl) rfl rfl (by rfl) (fn := 5) (args := #[.agg #[.int .i64 ((c : Int) - 1), .bool B1, .string ⟨#[]⟩, .slice none 0 0, .slice none 0 0], .string ⟨#[110]⟩]) ?_ (walk_ValueGets _ (.mk ((c : Int) - 1) B1 ⟨#[]⟩ [] []) ⟨#[110]⟩ r2 (Vl.up rk2 _ hv0) hsm (by decide) (by decide) (TB.out r2 (extV BWV rk2))) ?_
                · go_simp
                rintro e r3 ⟨rfl, hr3⟩
                have rk3 := extV rk2 hr3
                have HSS : Bx r3 R4 (.int .i64 ((c : Int) - 1)) (.bool B1) (.string ⟨#[]⟩) (.slice none 0 0) (.slice none 0 0) := HSS.below hr3 HSS.lt
                refine ⟨_, rfl, .inr HSS, ?_⟩
                simp only [Act.put, List.setIfInBounds_toArray, List.set_cons_zero, List.set_cons_succ]
                refine any_runD 13 50 (.bool false) r3 (by kernel_rfl) rfl rfl (by rfl) ?_ (.inr HSS) ?_
                · have za := HSS
                  have za_0 := za.c0; have za_1 := za.c1; have za_2 := za.c2; have za_3 := za.c3; have za_4 := za.c4
                  go_simp
                simp only [Act.put, List.setIfInBounds_toArray, List.set_cons_zero, List.set_cons_succ]
                refine any_runD 14 51 (.bool false) r3 (by kernel_rfl) rfl rfl (by rfl) ?_ (.inr HSS) ?_
                · have za := HSS
                  have za_0 := za.c0; have za_1 := za.c1; have za_2 := za.c2; have za_3 := za.c3; have za_4 := za.c4
                  go_simp
                simp only [Act.put, List.setIfInBounds_toArray, List.set_cons_zero, List.set_cons_succ]
                refine any_runD 15 52 (.bool false) r3 (by kernel_rfl) rfl rfl (by rfl) ?_ (.inr HSS) ?_
                · have za := HSS
                  have za_0 := za.c0; have za_1 := za.c1; have za_2 := za.c2; have za_3 := za.c3; have za_4 := za.c4
                  go_simp
                simp only [Act.put, List.setIfInBounds_toArray, List.set_cons_zero, List.set_cons_succ]
                refine any_runD 16 53 (.agg #[.int .i64 ((c : Int) - 1), .bool B1, .string ⟨#[]⟩, .slice none 0 0, .slice none 0 0]) r3 (by kernel_rfl) rfl rfl (by rfl) ?_ (.inr HSS) ?_
                · have za := HSS
                  have za_0 := za.c0; have za_1 := za.c1; have za_2 := za.c2; have za_3 := za.c3; have za_4 := za.c4
                  go_simp
                simp only [Act.put, List.setIfInBounds_toArray, List.set_cons_zero, List.set_cons_succ]
                refine any_callV 17 54 (by kernel_rfl) rfl rfl (by rfl) (fn := 35) (args := #[.agg #[.int .i64 ((c : Int) - 1), .bool B1, .string ⟨#[]⟩, .slice none 0 0, .slice none 0 0], .int .i64 2]) ?_ (nested_any (.mk ((c : Int) - 1) B1 ⟨#[]⟩ [] []) _ 2 (by omega) r3 (Vl.up rk3 _ hv0)) ?_
                · go_simp
                rintro e r4 ⟨ua, rfl, hr4, hua⟩
                have rk4 := extV rk3 hr4
                have HSS : Bx r4 R4 (.int .i64 ((c : Int) - 1)) (.bool B1) (.string ⟨#[]⟩) (.slice none 0 0) (.slice none 0 0) := HSS.below hr4 HSS.lt
                refine ⟨_, rfl, .inr HSS, ?_⟩
                simp only [Act.put, List.setIfInBounds_toArray, List.set_cons_zero, List.set_cons_succ]
                refine any_callV 18 55 (by kernel_rfl) rfl rfl (by rfl) (fn := 3) (args := #[ua]) ?_ (walk_ValueChecks _ _ r4 hua (sm_nest hsm _) (TB.out r4 (extV BWV rk4))) ?_
                · go_simp
                rintro e r5 ⟨rfl, hr5⟩
                have rk5 := extV rk4 hr5
                have HSS : Bx r5 R4 (.int .i64 ((c : Int) - 1)) (.bool B1) (.string ⟨#[]⟩) (.slice none 0 0) (.slice none 0 0) := HSS.below hr5 HSS.lt
                refine ⟨_, rfl, .inr HSS, ?_⟩
                simp only [Act.put, List.setIfInBounds_toArray, List.set_cons_zero, List.set_cons_succ]
                refine any_runD 19 56 (.bool false) r5 (by kernel_rfl) rfl rfl (by rfl) ?_ (.inr HSS) ?_
                · have za := HSS
                  have za_0 := za.c0; have za_1 := za.c1; have za_2 := za.c2; have za_3 := za.c3; have za_4 := za.c4
                  go_simp
                simp only [Act.put, List.setIfInBounds_toArray, List.set_cons_zero, List.set_cons_succ]
                refine any_runD 20 57 (.bool false) r5 (by kernel_rfl) rfl rfl (by rfl) ?_ (.inr HSS) ?_
                · have za := HSS
                  have za_0 := za.c0; have za_1 := za.c1; have za_2 := za.c2; have za_3 := za.c3; have za_4 := za.c4
                  go_simp
                simp only [Act.put, List.setIfInBounds_toArray, List.set_cons_zero, List.set_cons_succ]
                refine any_runD 21 58 (.bool false) r5 (by kernel_rfl) rfl rfl (by rfl) ?_ (.inr HSS) ?_
                · have za := HSS
                  have za_0 := za.c0; have za_1 := za.c1; have za_2 := za.c2; have za_3 := za.c3; have za_4 := za.c4
                  go_simp
                simp only [Act.put, List.setIfInBounds_toArray, List.set_cons_zero, List.set_cons_succ]
                refine any_takeD 22 59 (.agg #[.int .i64 ((c : Int) - 1), .bool B1, .string ⟨#[]⟩, .slice none 0 0, .slice none 0 0]) rfl rfl (by kernel_rfl) (by kernel_rfl) (by kernel_rfl) (by kernel_rfl) (fun _ _ _ h => h) (by rfl) ?_ HSS ?_
                · intro w' hS
                  have za := hS
                  have za_0 := za.c0; have za_1 := za.c1; have za_2 := za.c2; have za_3 := za.c3; have za_4 := za.c4
                  go_simp
                simp only [Act.put, List.setIfInBounds_toArray, List.set_cons_zero, List.set_cons_succ]
                refine any_takeD 24 61 (.agg #[.int .i64 ((c : Int) - 1), .bool B1, .string ⟨#[]⟩, .slice none 0 0, .slice none 0 0]) rfl rfl (by kernel_rfl) (by kernel_rfl) (by kernel_rfl) (by kernel_rfl) (fun _ _ _ h => h) (by rfl) ?_ HSS ?_
                · intro w' hS
                  have za := hS
                  have za_0 := za.c0; have za_1 := za.c1; have za_2 := za.c2; have za_3 := za.c3; have za_4 := za.c4
                  go_simp
                simp only [Act.put, List.setIfInBounds_toArray, List.set_cons_zero, List.set_cons_succ]
                refine any_callV 23 60 (by kernel_rfl) rfl rfl (by rfl) (fn := 35) (args := #[.agg #[.int .i64 ((c : Int) - 1), .bool B1, .string ⟨#[]⟩, .slice none 0 0, .slice none 0 0], .int .i64 1]) ?_ (nested_any (.mk ((c : Int) - 1) B1 ⟨#[]⟩ [] []) _ 1 (by omega) r5 (Vl.up rk5 _ hv0)) ?_
                · go_simp
                rintro e r6 ⟨ub, rfl, hr6, hub⟩
                have rk6 := extV rk5 hr6
                have HSS : Bx r6 R4 (.int .i64 ((c : Int) - 1)) (.bool B1) (.string ⟨#[]⟩) (.slice none 0 0) (.slice none 0 0) := HSS.below hr6 HSS.lt
                refine ⟨_, rfl, .inr HSS, ?_⟩
                simp only [Act.put, List.setIfInBounds_toArray, List.set_cons_zero, List.set_cons_succ]
                refine any_callV 25 62 (by kernel_rfl) rfl rfl (by rfl) (fn := 35) (args := #[.agg #[.int .i64 ((c : Int) - 1), .bool B1, .string ⟨#[]⟩, .slice none 0 0, .slice none 0 0], .int .i64 2]) ?_ (nested_any (.mk ((c : Int) - 1) B1 ⟨#[]⟩ [] []) _ 2 (by omega) r6 (Vl.up rk6 _ hv0)) ?_
                · go_simp
                rintro e r7 ⟨uc, rfl, hr7, huc⟩
                have rk7 := extV rk6 hr7
                have hub := Vl.up hr7 _ hub
                have HSS : Bx r7 R4 (.int .i64 ((c : Int) - 1)) (.bool B1) (.string ⟨#[]⟩) (.slice none 0 0) (.slice none 0 0) := HSS.below hr7 HSS.lt
                refine ⟨_, rfl, .inr HSS, ?_⟩
                simp only [Act.put, List.setIfInBounds_toArray, List.set_cons_zero, List.set_cons_succ]
                refine any_callV 26 63 (by kernel_rfl) rfl rfl (by rfl) (fn := 4) (args := #[ub, uc]) ?_ (walk_ValueEquals _ _ _ _ r7 hub (sm_nest hsm _) huc (sm_nest hsm _) (TB.out r7 (extV BWV rk7))) ?_
                · go_simp
                rintro e r8 ⟨rfl, hr8⟩
                have rk8 := extV rk7 hr8
                have HSS : Bx r8 R4 (.int .i64 ((c : Int) - 1)) (.bool B1) (.string ⟨#[]⟩) (.slice none 0 0) (.slice none 0 0) := HSS.below hr8 HSS.lt
                refine ⟨_, rfl, .inr HSS, ?_⟩
                simp only [Act.put, List.setIfInBounds_toArray, List.set_cons_zero, List.set_cons_succ]
                refine any_runD 27 64 (.bool false) r8 (by kernel_rfl) rfl rfl (by rfl) ?_ (.inr HSS) ?_
                · have za := HSS
                  have za_0 := za.c0; have za_1 := za.c1; have za_2 := za.c2; have za_3 := za.c3; have za_4 := za.c4
                  go_simp
                simp only [Act.put, List.setIfInBounds_toArray, List.set_cons_zero, List.set_cons_succ]
                refine any_runD 28 65 (.bool false) r8 (by kernel_rfl) rfl rfl (by rfl) ?_ (.inr HSS) ?_
                · have za := HSS
                  have za_0 := za.c0; have za_1 := za.c1; have za_2 := za.c2; have za_3 := za.c3; have za_4 := za.c4
                  go_simp
                simp only [Act.put, List.setIfInBounds_toArray, List.set_cons_zero, List.set_cons_succ]
                refine any_done (by kernel_rfl) ?_ _
                refine calm_normal ?_
                have LB := Lib.hid (hbx.trans (rk8.mono hbx.size))
                clear HSS px hv0 hsm hbx BWV
                go_wp2_with fail
                exact ⟨⟨b + 1, by go_num, by omega, LB⟩, by simp [intOf]; omega⟩
              | true =>
                obtain ⟨QN, hQN⟩ : ∃ Q, W8.heap.size = Q := ⟨_, rfl⟩
                obtain ⟨W8n, hWn⟩ : ∃ W, W8.alloc (.cells #[.string ⟨#[110]⟩] 9) = W := ⟨_, rfl⟩
                have hbn : Below W8.heap.size W8 W8n := by rw [← hWn]; exact below_allocV W8 _
                have hnm0 : Nm W8n (some ⟨QN, 0, none⟩) 1 1 [⟨#[110]⟩] := Nm.one_at (by rw [← hWn, ← hQN]; exact heap_alloc_new W8 _)
                have hRQ : R4 < QN := by have := hx.lt; omega
                have hx := hx.below hbn hx.lt
                have e0 := hx.c0; have f0 := hx.fz 0; have e1 := hx.c1; have f1 := hx.fz 1; have e2 := hx.c2; have f2 := hx.fz 2; have e3 := hx.c3; have f3 := hx.fz 3; have e4 := hx.c4; have f4 := hx.fz 4
                go_upto_region 15 with fail
                have hst : ∀ z, z ≠ R4 → (W8n.setCell ⟨R4, 4, none⟩ (.slice (some ⟨QN, 0, none⟩) 1 1)).heap[z]? = W8n.heap[z]? := fun z hz => Below.heap_setCell _ _ _ _ hz
                have hy := hx.set4 (.slice (some ⟨QN, 0, none⟩) 1 1)
                have hby := (hbx.trans (hbn.mono hbx.size)).setCell (p := ⟨R4, 4, none⟩) hRw (.slice (some ⟨QN, 0, none⟩) 1 1)
                have hnm := hnm0.same (w' := W8n.setCell ⟨R4, 4, none⟩ (.slice (some ⟨QN, 0, none⟩) 1 1)) (fun g off e _ => by injection e with e; injection e with e1 e2; subst e1; exact hst _ (by omega))
                clear e0 f0 e1 f1 e2 f2 e3 f3 e4 f4
                clear hst hx hbx hbn hnm0 hWn hQN
                obtain ⟨W8s, hW'⟩ : ∃ W, W8n.setCell ⟨R4, 4, none⟩ (.slice (some ⟨QN, 0, none⟩) 1 1) = W := ⟨_, rfl⟩
                rw [hW'] at hy hby hnm ⊢
                clear hW'
                have hx := hy
                have hbx := hby
                clear hy hby
                have hv0 : Vl W8s (.agg #[.int .i64 ((c : Int) - 1), .bool B1, .string ⟨#[]⟩, .slice none 0 0, .slice (some ⟨QN, 0, none⟩) 1 1]) (.mk ((c : Int) - 1) B1 ⟨#[]⟩ [] [⟨#[110]⟩]) := Vl.shut (t := (.mk ((c : Int) - 1) B1 ⟨#[]⟩ [] [⟨#[110]⟩])) (VL.none_ W8s) (hnm) (show (-9223372036854775808 : Int) ≤ (c : Int) - 1 ∧ (c : Int) - 1 ≤ 9223372036854775807 by omega) (show ByteArray.size ⟨#[]⟩ ≤ 140737488351232 by decide)
                have hsm : Sm (.mk ((c : Int) - 1) B1 ⟨#[]⟩ [] [⟨#[110]⟩]) := Sm.mk (fun x hx => by simp at hx; subst hx; decide) (fun x hx => by cases hx)
                have BWV : Below w.heap.size w W8s := B2.out.trans (hbx.mono B2.out.size)
                have px := hx
                clear hx
                go_upto_region 15 with fail
                have hsz1 : (⟨#[110]⟩ : ByteArray).size ≤ 140737488351232 := by decide
                have HSS : Bx W8s.drew R4 (.int .i64 ((c : Int) - 1)) (.bool B1) (.string ⟨#[]⟩) (.slice none 0 0) (.slice (some ⟨QN, 0, none⟩) 1 1) := Bx.same px rfl
                refine region_calm (fun w' => Bx w' R4 (.int .i64 ((c : Int) - 1)) (.bool B1) (.string ⟨#[]⟩) (.slice none 0 0) (.slice (some ⟨QN, 0, none⟩) 1 1)) [4, 22, 24] (by kernel_rfl) ?_
                have rk0 : Below W8s.heap.size W8s W8s.drew := ⟨rfl, rfl, rfl, Nat.le_refl _, fun _ _ => rfl⟩
                refine any_runD 0 37 (.agg #[.int .i64 ((c : Int) - 1), .bool B1, .string ⟨#[]⟩, .slice none 0 0, .slice (some ⟨QN, 0, none⟩) 1 1]) W8s.drew (by kernel_rfl) rfl rfl (by rfl) ?_ (.inr HSS) ?_
                · have za := HSS
                  have za_0 := za.c0; have za_1 := za.c1; have za_2 := za.c2; have za_3 := za.c3; have za_4 := za.c4
                  go_simp
                simp only [Act.put, List.setIfInBounds_toArray, List.set_cons_zero, List.set_cons_succ]
                refine any_callV 1 38 (by kernel_rfl) rfl rfl (by rfl) (fn := 3) (args := #[.agg #[.int .i64 ((c : Int) - 1), .bool B1, .string ⟨#[]⟩, .slice none 0 0, .slice (some ⟨QN, 0, none⟩) 1 1]]) ?_ (walk_ValueChecks _ (.mk ((c : Int) - 1) B1 ⟨#[]⟩ [] [⟨#[110]⟩]) W8s.drew (Vl.up rk0 _ hv0) hsm (TB.out W8s.drew (extV BWV rk0))) ?_
                · go_simp
                rintro e r1 ⟨rfl, hr1⟩
                have rk1 := extV rk0 hr1
                have HSS : Bx r1 R4 (.int .i64 ((c : Int) - 1)) (.bool B1) (.string ⟨#[]⟩) (.slice none 0 0) (.slice (some ⟨QN, 0, none⟩) 1 1) := HSS.below hr1 HSS.lt
                refine ⟨_, rfl, .inr HSS, ?_⟩
                simp only [Act.put, List.setIfInBounds_toArray, List.set_cons_zero, List.set_cons_succ]
                refine any_runD 2 39 (.bool false) r1 (by kernel_rfl) rfl rfl (by rfl) ?_ (.inr HSS) ?_
                · have za := HSS
                  have za_0 := za.c0; have za_1 := za.c1; have za_2 := za.c2; have za_3 := za.c3; have za_4 := za.c4
                  go_simp
                simp only [Act.put, List.setIfInBounds_toArray, List.set_cons_zero, List.set_cons_succ]
                refine any_runD 3 40 (.bool false) r1 (by kernel_rfl) rfl rfl (by rfl) ?_ (.inr HSS) ?_
                · have za := HSS
                  have za_0 := za.c0; have za_1 := za.c1; have za_2 := za.c2; have za_3 := za.c3; have za_4 := za.c4
                  go_simp
                simp only [Act.put, List.setIfInBounds_toArray, List.set_cons_zero, List.set_cons_succ]
                refine any_takeD 4 41 (.agg #[.int .i64 ((c : Int) - 1), .bool B1, .string ⟨#[]⟩, .slice none 0 0, .slice (some ⟨QN, 0, none⟩) 1 1]) rfl rfl (by kernel_rfl) (by kernel_rfl) (by kernel_rfl) (by kernel_rfl) (fun _ _ _ h => h) (by rfl) ?_ HSS ?_
                · intro w' hS
                  have za := hS
                  have za_0 := za.c0; have za_1 := za.c1; have za_2 := za.c2; have za_3 := za.c3; have za_4 := za.c4
                  go_simp
                simp only [Act.put, List.setIfInBounds_toArray, List.set_cons_zero, List.set_cons_succ]
                refine any_runD 5 42 (.int .i64 ((c : Int) - 1)) r1 (by kernel_rfl) rfl rfl (by rfl) ?_ (.inr HSS) ?_
                · have za := HSS
                  have za_0 := za.c0; have za_1 := za.c1; have za_2 := za.c2; have za_3 := za.c3; have za_4 := za.c4
                  go_simp
                simp only [Act.put, List.setIfInBounds_toArray, List.set_cons_zero, List.set_cons_succ]
                refine any_runD 6 43 (.agg #[.int .i64 ((c : Int) - 1), .bool false, .string ⟨#[]⟩, .slice none 0 0, .slice none 0 0]) r1 (by kernel_rfl) rfl rfl (by rfl) ?_ (.inr HSS) ?_
                · have za := HSS
                  have za_0 := za.c0; have za_1 := za.c1; have za_2 := za.c2; have za_3 := za.c3; have za_4 := za.c4
                  go_simp
                simp only [Act.put, List.setIfInBounds_toArray, List.set_cons_zero, List.set_cons_succ]
                refine any_callV 7 44 (by kernel_rfl) rfl rfl (by rfl) (fn := 4) (args := #[.agg #[.int .i64 ((c : Int) - 1), .bool B1, .string ⟨#[]⟩, .slice none 0 0, .slice (some ⟨QN, 0, none⟩) 1 1], .agg #[.int .i64 ((c : Int) - 1), .bool false, .string ⟨#[]⟩, .slice none 0 0, .slice none 0 0]]) ?_ (walk_ValueEquals _ (.mk ((c : Int) - 1) B1 ⟨#[]⟩ [] [⟨#[110]⟩]) _ (.mk ((c : Int) - 1) false ⟨#[]⟩ [] []) r1 (Vl.up rk1 _ hv0) hsm (vl_plain r1 false (s := ⟨#[]⟩) ⟨by omega, by omega⟩ (by decide)) (sm_plain _ _ _) (TB.out r1 (extV BWV rk1))) ?_
                · go_simp
                rintro e r2 ⟨rfl, hr2⟩
                have rk2 := extV rk1 hr2
                have HSS : Bx r2 R4 (.int .i64 ((c : Int) - 1)) (.bool B1) (.string ⟨#[]⟩) (.slice none 0 0) (.slice (some ⟨QN, 0, none⟩) 1 1) := HSS.below hr2 HSS.lt
                refine ⟨_, rfl, .inr HSS, ?_⟩
                simp only [Act.put, List.setIfInBounds_toArray, List.set_cons_zero, List.set_cons_succ]
                refine any_runD 8 45 (.bool false) r2 (by kernel_rfl) rfl rfl (by rfl) ?_ (.inr HSS) ?_
                · have za := HSS
                  have za_0 := za.c0; have za_1 := za.c1; have za_2 := za.c2; have za_3 := za.c3; have za_4 := za.c4
                  go_simp
                simp only [Act.put, List.setIfInBounds_toArray, List.set_cons_zero, List.set_cons_succ]
                refine any_runD 9 46 (.bool false) r2 (by kernel_rfl) rfl rfl (by rfl) ?_ (.inr HSS) ?_
                · have za := HSS
                  have za_0 := za.c0; have za_1 := za.c1; have za_2 := za.c2; have za_3 := za.c3; have za_4 := za.c4
                  go_simp
                simp only [Act.put, List.setIfInBounds_toArray, List.set_cons_zero, List.set_cons_succ]
                refine any_runD 10 47 (.bool false) r2 (by kernel_rfl) rfl rfl (by rfl) ?_ (.inr HSS) ?_
                · have za := HSS
                  have za_0 := za.c0; have za_1 := za.c1; have za_2 := za.c2; have za_3 := za.c3; have za_4 := za.c4
                  go_simp
                simp only [Act.put, List.setIfInBounds_toArray, List.set_cons_zero, List.set_cons_succ]
                refine any_runD 11 48 (.agg #[.int .i64 ((c : Int) - 1), .bool B1, .string ⟨#[]⟩, .slice none 0 0, .slice (some ⟨QN, 0, none⟩) 1 1]) r2 (by kernel_rfl) rfl rfl (by rfl) ?_ (.inr HSS) ?_
                · have za := HSS
                  have za_0 := za.c0; have za_1 := za.c1; have za_2 := za.c2; have za_3 := za.c3; have za_4 := za.c4
                  go_simp
                simp only [Act.put, List.setIfInBounds_toArray, List.set_cons_zero, List.set_cons_succ]
                refine any_callV 12 49 (by kernel_rfl) rfl rfl (by rfl) (fn := 5) (args := #[.agg #[.int .i64 ((c : Int) - 1), .bool B1, .string ⟨#[]⟩, .slice none 0 0, .slice (some ⟨QN, 0, none⟩) 1 1], .string ⟨#[110]⟩]) ?_ (walk_ValueGets _ (.mk ((c : Int) - 1) B1 ⟨#[]⟩ [] [⟨#[110]⟩]) ⟨#[110]⟩ r2 (Vl.up rk2 _ hv0) hsm (by decide) (by decide) (TB.out r2 (extV BWV rk2))) ?_
                · go_simp
                rintro e r3 ⟨rfl, hr3⟩
                have rk3 := extV rk2 hr3
                have HSS : Bx r3 R4 (.int .i64 ((c : Int) - 1)) (.bool B1) (.string ⟨#[]⟩) (.slice none 0 0) (.slice (some ⟨QN, 0, none⟩) 1 1) := HSS.below hr3 HSS.lt
                refine ⟨_, rfl, .inr HSS, ?_⟩
                simp only [Act.put, List.setIfInBounds_toArray, List.set_cons_zero, List.set_cons_succ]
                refine any_runD 13 50 (.bool false) r3 (by kernel_rfl) rfl rfl (by rfl) ?_ (.inr HSS) ?_
                · have za := HSS
                  have za_0 := za.c0; have za_1 := za.c1; have za_2 := za.c2; have za_3 := za.c3; have za_4 := za.c4
                  go_simp
                simp only [Act.put, List.setIfInBounds_toArray, List.set_cons_zero, List.set_cons_succ]
                refine any_runD 14 51 (.bool false) r3 (by kernel_rfl) rfl rfl (by rfl) ?_ (.inr HSS) ?_
                · have za := HSS
                  have za_0 := za.c0; have za_1 := za.c1; have za_2 := za.c2; have za_3 := za.c3; have za_4 := za.c4
                  go_simp
                simp only [Act.put, List.setIfInBounds_toArray, List.set_cons_zero, List.set_cons_succ]
                refine any_runD 15 52 (.bool false) r3 (by kernel_rfl) rfl rfl (by rfl) ?_ (.inr HSS) ?_
                · have za := HSS
                  have za_0 := za.c0; have za_1 := za.c1; have za_2 := za.c2; have za_3 := za.c3; have za_4 := za.c4
                  go_simp
                simp only [Act.put, List.setIfInBounds_toArray, List.set_cons_zero, List.set_cons_succ]
                refine any_runD 16 53 (.agg #[.int .i64 ((c : Int) - 1), .bool B1, .string ⟨#[]⟩, .slice none 0 0, .slice (some ⟨QN, 0, none⟩) 1 1]) r3 (by kernel_rfl) rfl rfl (by rfl) ?_ (.inr HSS) ?_
                · have za := HSS
                  have za_0 := za.c0; have za_1 := za.c1; have za_2 := za.c2; have za_3 := za.c3; have za_4 := za.c4
                  go_simp
                simp only [Act.put, List.setIfInBounds_toArray, List.set_cons_zero, List.set_cons_succ]
                refine any_callV 17 54 (by kernel_rfl) rfl rfl (by rfl) (fn := 35) (args := #[.agg #[.int .i64 ((c : Int) - 1), .bool B1, .string ⟨#[]⟩, .slice none 0 0, .slice (some ⟨QN, 0, none⟩) 1 1], .int .i64 2]) ?_ (nested_any (.mk ((c : Int) - 1) B1 ⟨#[]⟩ [] [⟨#[110]⟩]) _ 2 (by omega) r3 (Vl.up rk3 _ hv0)) ?_
                · go_simp
                rintro e r4 ⟨ua, rfl, hr4, hua⟩
                have rk4 := extV rk3 hr4
                have HSS : Bx r4 R4 (.int .i64 ((c : Int) - 1)) (.bool B1) (.string ⟨#[]⟩) (.slice none 0 0) (.slice (some ⟨QN, 0, none⟩) 1 1) := HSS.below hr4 HSS.lt
                refine ⟨_, rfl, .inr HSS, ?_⟩
                simp only [Act.put, List.setIfInBounds_toArray, List.set_cons_zero, List.set_cons_succ]
                refine any_callV 18 55 (by kernel_rfl) rfl rfl (by rfl) (fn := 3) (args := #[ua]) ?_ (walk_ValueChecks _ _ r4 hua (sm_nest hsm _) (TB.out r4 (extV BWV rk4))) ?_
                · go_simp
                rintro e r5 ⟨rfl, hr5⟩
                have rk5 := extV rk4 hr5
                have HSS : Bx r5 R4 (.int .i64 ((c : Int) - 1)) (.bool B1) (.string ⟨#[]⟩) (.slice none 0 0) (.slice (some ⟨QN, 0, none⟩) 1 1) := HSS.below hr5 HSS.lt
                refine ⟨_, rfl, .inr HSS, ?_⟩
                simp only [Act.put, List.setIfInBounds_toArray, List.set_cons_zero, List.set_cons_succ]
                refine any_runD 19 56 (.bool false) r5 (by kernel_rfl) rfl rfl (by rfl) ?_ (.inr HSS) ?_
                · have za := HSS
                  have za_0 := za.c0; have za_1 := za.c1; have za_2 := za.c2; have za_3 := za.c3; have za_4 := za.c4
                  go_simp
                simp only [Act.put, List.setIfInBounds_toArray, List.set_cons_zero, List.set_cons_succ]
                refine any_runD 20 57 (.bool false) r5 (by kernel_rfl) rfl rfl (by rfl) ?_ (.inr HSS) ?_
                · have za := HSS
                  have za_0 := za.c0; have za_1 := za.c1; have za_2 := za.c2; have za_3 := za.c3; have za_4 := za.c4
                  go_simp
                simp only [Act.put, List.setIfInBounds_toArray, List.set_cons_zero, List.set_cons_succ]
                refine any_runD 21 58 (.bool false) r5 (by kernel_rfl) rfl rfl (by rfl) ?_ (.inr HSS) ?_
                · have za := HSS
                  have za_0 := za.c0; have za_1 := za.c1; have za_2 := za.c2; have za_3 := za.c3; have za_4 := za.c4
                  go_simp
                simp only [Act.put, List.setIfInBounds_toArray, List.set_cons_zero, List.set_cons_succ]
                refine any_takeD 22 59 (.agg #[.int .i64 ((c : Int) - 1), .bool B1, .string ⟨#[]⟩, .slice none 0 0, .slice (some ⟨QN, 0, none⟩) 1 1]) rfl rfl (by kernel_rfl) (by kernel_rfl) (by kernel_rfl) (by kernel_rfl) (fun _ _ _ h => h) (by rfl) ?_ HSS ?_
                · intro w' hS
                  have za := hS
                  have za_0 := za.c0; have za_1 := za.c1; have za_2 := za.c2; have za_3 := za.c3; have za_4 := za.c4
                  go_simp
                simp only [Act.put, List.setIfInBounds_toArray, List.set_cons_zero, List.set_cons_succ]
                refine any_takeD 24 61 (.agg #[.int .i64 ((c : Int) - 1), .bool B1, .string ⟨#[]⟩, .slice none 0 0, .slice (some ⟨QN, 0, none⟩) 1 1]) rfl rfl (by kernel_rfl) (by kernel_rfl) (by kernel_rfl) (by kernel_rfl) (fun _ _ _ h => h) (by rfl) ?_ HSS ?_
                · intro w' hS
                  have za := hS
                  have za_0 := za.c0; have za_1 := za.c1; have za_2 := za.c2; have za_3 := za.c3; have za_4 := za.c4
                  go_simp
                simp only [Act.put, List.setIfInBounds_toArray, List.set_cons_zero, List.set_cons_succ]
                refine any_callV 23 60 (by kernel_rfl) rfl rfl (by rfl) (fn := 35) (args := #[.agg #[.int .i64 ((c : Int) - 1), .bool B1, .string ⟨#[]⟩, .slice none 0 0, .slice (some ⟨QN, 0, none⟩) 1 1], .int .i64 1]) ?_ (nested_any (.mk ((c : Int) - 1) B1 ⟨#[]⟩ [] [⟨#[110]⟩]) _ 1 (by omega) r5 (Vl.up rk5 _ hv0)) ?_
                · go_simp
                rintro e r6 ⟨ub, rfl, hr6, hub⟩
                have rk6 := extV rk5 hr6
                have HSS : Bx r6 R4 (.int .i64 ((c : Int) - 1)) (.bool B1) (.string ⟨#[]⟩) (.slice none 0 0) (.slice (some ⟨QN, 0, none⟩) 1 1) := HSS.below hr6 HSS.lt
                refine ⟨_, rfl, .inr HSS, ?_⟩
                simp only [Act.put, List.setIfInBounds_toArray, List.set_cons_zero, List.set_cons_succ]
                refine any_callV 25 62 (by kernel_rfl) rfl rfl (by rfl) (fn := 35) (args := #[.agg #[.int .i64 ((c : Int) - 1), .bool B1, .string ⟨#[]⟩, .slice none 0 0, .slice (some ⟨QN, 0, none⟩) 1 1], .int .i64 2]) ?_ (nested_any (.mk ((c : Int) - 1) B1 ⟨#[]⟩ [] [⟨#[110]⟩]) _ 2 (by omega) r6 (Vl.up rk6 _ hv0)) ?_
                · go_simp
                rintro e r7 ⟨uc, rfl, hr7, huc⟩
                have rk7 := extV rk6 hr7
                have hub := Vl.up hr7 _ hub
                have HSS : Bx r7 R4 (.int .i64 ((c : Int) - 1)) (.bool B1) (.string ⟨#[]⟩) (.slice none 0 0) (.slice (some ⟨QN, 0, none⟩) 1 1) := HSS.below hr7 HSS.lt
                refine ⟨_, rfl, .inr HSS, ?_⟩
                simp only [Act.put, List.setIfInBounds_toArray, List.set_cons_zero, List.set_cons_succ]
                refine any_callV 26 63 (by kernel_rfl) rfl rfl (by rfl) (fn := 4) (args := #[ub, uc]) ?_ (walk_ValueEquals _ _ _ _ r7 hub (sm_nest hsm _) huc (sm_nest hsm _) (TB.out r7 (extV BWV rk7))) ?_
                · go_simp
                rintro e r8 ⟨rfl, hr8⟩
                have rk8 := extV rk7 hr8
                have HSS : Bx r8 R4 (.int .i64 ((c : Int) - 1)) (.bool B1) (.string ⟨#[]⟩) (.slice none 0 0) (.slice (some ⟨QN, 0, none⟩) 1 1) := HSS.below hr8 HSS.lt
                refine ⟨_, rfl, .inr HSS, ?_⟩
                simp only [Act.put, List.setIfInBounds_toArray, List.set_cons_zero, List.set_cons_succ]
                refine any_runD 27 64 (.bool false) r8 (by kernel_rfl) rfl rfl (by rfl) ?_ (.inr HSS) ?_
                · have za := HSS
                  have za_0 := za.c0; have za_1 := za.c1; have za_2 := za.c2; have za_3 := za.c3; have za_4 := za.c4
                  go_simp
                simp only [Act.put, List.setIfInBounds_toArray, List.set_cons_zero, List.set_cons_succ]
                refine any_runD 28 65 (.bool false) r8 (by kernel_rfl) rfl rfl (by rfl) ?_ (.inr HSS) ?_
                · have za := HSS
                  have za_0 := za.c0; have za_1 := za.c1; have za_2 := za.c2; have za_3 := za.c3; have za_4 := za.c4
                  go_simp
                simp only [Act.put, List.setIfInBounds_toArray, List.set_cons_zero, List.set_cons_succ]
                refine any_done (by kernel_rfl) ?_ _
                refine calm_normal ?_
                have LB := Lib.hid (hbx.trans (rk8.mono hbx.size))
                clear HSS px hv0 hsm hbx BWV
                go_wp2_with fail
                exact ⟨⟨b + 1, by go_num, by omega, LB⟩, by simp [intOf]; omega⟩
            | true =>
              have e0 := hx.c0; have f0 := hx.fz 0; have e1 := hx.c1; have f1 := hx.fz 1; have e2 := hx.c2; have f2 := hx.fz 2; have e3 := hx.c3; have f3 := hx.fz 3; have e4 := hx.c4; have f4 := hx.fz 4
              go_upto_region 13 with fail
              have hst : ∀ z, z ≠ R4 → (W8.setCell ⟨R4, 3, none⟩ (.slice (some ⟨QS, 0, none⟩) 1 1)).heap[z]? = W8.heap[z]? := fun z hz => Below.heap_setCell _ _ _ _ hz
              have hy := hx.set3 (.slice (some ⟨QS, 0, none⟩) 1 1)
              have hby := (hbx).setCell (p := ⟨R4, 3, none⟩) hRw (.slice (some ⟨QS, 0, none⟩) 1 1)
              clear e0 f0 e1 f1 e2 f2 e3 f3 e4 f4
              clear hst hx hbx
              obtain ⟨W8s, hW'⟩ : ∃ W, W8.setCell ⟨R4, 3, none⟩ (.slice (some ⟨QS, 0, none⟩) 1 1) = W := ⟨_, rfl⟩
              rw [hW'] at hy hby ⊢
              clear hW'
              have hx := hy
              have hbx := hby
              clear hy hby
              cases h8 : (bits .and .i64 (b : Int) 8 == 8) with
              | false =>
                have hv0 : Vl W8s (.agg #[.int .i64 ((c : Int) - 1), .bool B1, .string ⟨#[]⟩, .slice (some ⟨QS, 0, none⟩) 1 1, .slice none 0 0]) (.mk ((c : Int) - 1) B1 ⟨#[]⟩ [.mk 2 false ⟨#[49]⟩ [] []] []) := Vl.shut (t := (.mk ((c : Int) - 1) B1 ⟨#[]⟩ [.mk 2 false ⟨#[49]⟩ [] []] [])) (HVL.out.below hbx) (Nm.none_ W8s) (show (-9223372036854775808 : Int) ≤ (c : Int) - 1 ∧ (c : Int) - 1 ≤ 9223372036854775807 by omega) (show ByteArray.size ⟨#[]⟩ ≤ 140737488351232 by decide)
                have hsm : Sm (.mk ((c : Int) - 1) B1 ⟨#[]⟩ [.mk 2 false ⟨#[49]⟩ [] []] []) := Sm.mk (fun x hx => by cases hx) (fun x hx => by simp at hx; subst hx; exact SM1.out)
                have BWV : Below w.heap.size w W8s := B2.out.trans (hbx.mono B2.out.size)
                have px := hx
                clear hx
                go_upto_region 15 with fail
                have hsz1 : (⟨#[110]⟩ : ByteArray).size ≤ 140737488351232 := by decide
                have HSS : Bx W8s.drew R4 (.int .i64 ((c : Int) - 1)) (.bool B1) (.string ⟨#[]⟩) (.slice (some ⟨QS, 0, none⟩) 1 1) (.slice none 0 0) := Bx.same px rfl
                refine region_calm (fun w' => Bx w' R4 (.int .i64 ((c : Int) - 1)) (.bool B1) (.string ⟨#[]⟩) (.slice (some ⟨QS, 0, none⟩) 1 1) (.slice none 0 0)) [4, 22, 24] (by kernel_rfl) ?_
                have rk0 : Below W8s.heap.size W8s W8s.drew := ⟨rfl, rfl, rfl, Nat.le_refl _, fun _ _ => rfl⟩
                refine any_runD 0 37 (.agg #[.int .i64 ((c : Int) - 1), .bool B1, .string ⟨#[]⟩, .slice (some ⟨QS, 0, none⟩) 1 1, .slice none 0 0]) W8s.drew (by kernel_rfl) rfl rfl (by rfl) ?_ (.inr HSS) ?_
                · have za := HSS
                  have za_0 := za.c0; have za_1 := za.c1; have za_2 := za.c2; have za_3 := za.c3; have za_4 := za.c4
                  go_simp
                simp only [Act.put, List.setIfInBounds_toArray, List.set_cons_zero, List.set_cons_succ]
                refine any_callV 1 38 (by kernel_rfl) rfl rfl (by rfl) (fn := 3) (args := #[.agg #[.int .i64 ((c : Int) - 1), .bool B1, .string ⟨#[]⟩, .slice (some ⟨QS, 0, none⟩) 1 1, .slice none 0 0]]) ?_ (walk_ValueChecks _ (.mk ((c : Int) - 1) B1 ⟨#[]⟩ [.mk 2 false ⟨#[49]⟩ [] []] []) W8s.drew (Vl.up rk0 _ hv0) hsm (TB.out W8s.drew (extV BWV rk0))) ?_
                · go_simp
                rintro e r1 ⟨rfl, hr1⟩
                have rk1 := extV rk0 hr1
                have HSS : Bx r1 R4 (.int .i64 ((c : Int) - 1)) (.bool B1) (.string ⟨#[]⟩) (.slice (some ⟨QS, 0, none⟩) 1 1) (.slice none 0 0) := HSS.below hr1 HSS.lt
                refine ⟨_, rfl, .inr HSS, ?_⟩
                simp only [Act.put, List.setIfInBounds_toArray, List.set_cons_zero, List.set_cons_succ]
                refine any_runD 2 39 (.bool false) r1 (by kernel_rfl) rfl rfl (by rfl) ?_ (.inr HSS) ?_
                · have za := HSS
                  have za_0 := za.c0; have za_1 := za.c1; have za_2 := za.c2; have za_3 := za.c3; have za_4 := za.c4
                  go_simp
                simp only [Act.put, List.setIfInBounds_toArray, List.set_cons_zero, List.set_cons_succ]
                refine any_runD 3 40 (.bool false) r1 (by kernel_rfl) rfl rfl (by rfl) ?_ (.inr HSS) ?_
                · have za := HSS
                  have za_0 := za.c0; have za_1 := za.c1; have za_2 := za.c2; have za_3 := za.c3; have za_4 := za.c4
                  go_simp
                simp only [Act.put, List.setIfInBounds_toArray, List.set_cons_zero, List.set_cons_succ]
                refine any_takeD 4 41 (.agg #[.int .i64 ((c : Int) - 1), .bool B1, .string ⟨#[]⟩, .slice (some ⟨QS, 0, none⟩) 1 1, .slice none 0 0]) rfl rfl (by kernel_rfl) (by kernel_rfl) (by kernel_rfl) (by kernel_rfl) (fun _ _ _ h => h) (by rfl) ?_ HSS ?_
                · intro w' hS
                  have za := hS
                  have za_0 := za.c0; have za_1 := za.c1; have za_2 := za.c2; have za_3 := za.c3; have za_4 := za.c4
                  go_simp
                simp only [Act.put, List.setIfInBounds_toArray, List.set_cons_zero, List.set_cons_succ]
                refine any_runD 5 42 (.int .i64 ((c : Int) - 1)) r1 (by kernel_rfl) rfl rfl (by rfl) ?_ (.inr HSS) ?_
                · have za := HSS
                  have za_0 := za.c0; have za_1 := za.c1; have za_2 := za.c2; have za_3 := za.c3; have za_4 := za.c4
                  go_simp
                simp only [Act.put, List.setIfInBounds_toArray, List.set_cons_zero, List.set_cons_succ]
                refine any_runD 6 43 (.agg #[.int .i64 ((c : Int) - 1), .bool false, .string ⟨#[]⟩, .slice none 0 0, .slice none 0 0]) r1 (by kernel_rfl) rfl rfl (by rfl) ?_ (.inr HSS) ?_
                · have za := HSS
                  have za_0 := za.c0; have za_1 := za.c1; have za_2 := za.c2; have za_3 := za.c3; have za_4 := za.c4
                  go_simp
                simp only [Act.put, List.setIfInBounds_toArray, List.set_cons_zero, List.set_cons_succ]
                refine any_callV 7 44 (by kernel_rfl) rfl rfl (by rfl) (fn := 4) (args := #[.agg #[.int .i64 ((c : Int) - 1), .bool B1, .string ⟨#[]⟩, .slice (some ⟨QS, 0, none⟩) 1 1, .slice none 0 0], .agg #[.int .i64 ((c : Int) - 1), .bool false, .string ⟨#[]⟩, .slice none 0 0, .slice none 0 0]]) ?_ (walk_ValueEquals _ (.mk ((c : Int) - 1) B1 ⟨#[]⟩ [.mk 2 false ⟨#[49]⟩ [] []] []) _ (.mk ((c : Int) - 1) false ⟨#[]⟩ [] []) r1 (Vl.up rk1 _ hv0) hsm (vl_plain r1 false (s := ⟨#[]⟩) ⟨by omega, by omega⟩ (by decide)) (sm_plain _ _ _) (TB.out r1 (extV BWV rk1))) ?_
                · go_simp
                rintro e r2 ⟨rfl, hr2⟩
                have rk2 := extV rk1 hr2
                have HSS : Bx r2 R4 (.int .i64 ((c : Int) - 1)) (.bool B1) (.string ⟨#[]⟩) (.slice (some ⟨QS, 0, none⟩) 1 1) (.slice none 0 0) := HSS.below hr2 HSS.lt
                refine ⟨_, rfl, .inr HSS, ?_⟩
                simp only [Act.put, List.setIfInBounds_toArray, List.set_cons_zero, List.set_cons_succ]
                refine any_runD 8 45 (.bool false) r2 (by kernel_rfl) rfl rfl (by rfl) ?_ (.inr HSS) ?_
                · have za := HSS
                  have za_0 := za.c0; have za_1 := za.c1; have za_2 := za.c2; have za_3 := za.c3; have za_4 := za.c4
                  go_simp
                simp only [Act.put, List.setIfInBounds_toArray, List.set_cons_zero, List.set_cons_succ]
                refine any_runD 9 46 (.bool false) r2 (by kernel_rfl) rfl rfl (by rfl) ?_ (.inr HSS) ?_
                · have za := HSS
                  have za_0 := za.c0; have za_1 := za.c1; have za_2 := za.c2; have za_3 := za.c3; have za_4 := za.c4
                  go_simp
                simp only [Act.put, List.setIfInBounds_toArray, List.set_cons_zero, List.set_cons_succ]
                refine any_runD 10 47 (.bool false) r2 (by kernel_rfl) rfl rfl (by rfl) ?_ (.inr HSS) ?_
                · have za := HSS
                  have za_0 := za.c0; have za_1 := za.c1; have za_2 := za.c2; have za_3 := za.c3; have za_4 := za.c4
                  go_simp
                simp only [Act.put, List.setIfInBounds_toArray, List.set_cons_zero, List.set_cons_succ]
                refine any_runD 11 48 (.agg #[.int .i64 ((c : Int) - 1), .bool B1, .string ⟨#[]⟩, .slice (some ⟨QS, 0, none⟩) 1 1, .slice none 0 0]) r2 (by kernel_rfl) rfl rfl (by rfl) ?_ (.inr HSS) ?_
                · have za := HSS
                  have za_0 := za.c0; have za_1 := za.c1; have za_2 := za.c2; have za_3 := za.c3; have za_4 := za.c4
                  go_simp
                simp only [Act.put, List.setIfInBounds_toArray, List.set_cons_zero, List.set_cons_succ]
                refine any_callV 12 49 (by kernel_rfl) rfl rfl (by rfl) (fn := 5) (args := #[.agg #[.int .i64 ((c : Int) - 1), .bool B1, .string ⟨#[]⟩, .slice (some ⟨QS, 0, none⟩) 1 1, .slice none 0 0], .string ⟨#[110]⟩]) ?_ (walk_ValueGets _ (.mk ((c : Int) - 1) B1 ⟨#[]⟩ [.mk 2 false ⟨#[49]⟩ [] []] []) ⟨#[110]⟩ r2 (Vl.up rk2 _ hv0) hsm (by decide) (by decide) (TB.out r2 (extV BWV rk2))) ?_
                · go_simp
                rintro e r3 ⟨rfl, hr3⟩
                have rk3 := extV rk2 hr3
                have HSS : Bx r3 R4 (.int .i64 ((c : Int) - 1)) (.bool B1) (.string ⟨#[]⟩) (.slice (some ⟨QS, 0, none⟩) 1 1) (.slice none 0 0) := HSS.below hr3 HSS.lt
                refine ⟨_, rfl, .inr HSS, ?_⟩
                simp only [Act.put, List.setIfInBounds_toArray, List.set_cons_zero, List.set_cons_succ]
                refine any_runD 13 50 (.bool false) r3 (by kernel_rfl) rfl rfl (by rfl) ?_ (.inr HSS) ?_
                · have za := HSS
                  have za_0 := za.c0; have za_1 := za.c1; have za_2 := za.c2; have za_3 := za.c3; have za_4 := za.c4
                  go_simp
                simp only [Act.put, List.setIfInBounds_toArray, List.set_cons_zero, List.set_cons_succ]
                refine any_runD 14 51 (.bool false) r3 (by kernel_rfl) rfl rfl (by rfl) ?_ (.inr HSS) ?_
                · have za := HSS
                  have za_0 := za.c0; have za_1 := za.c1; have za_2 := za.c2; have za_3 := za.c3; have za_4 := za.c4
                  go_simp
                simp only [Act.put, List.setIfInBounds_toArray, List.set_cons_zero, List.set_cons_succ]
                refine any_runD 15 52 (.bool false) r3 (by kernel_rfl) rfl rfl (by rfl) ?_ (.inr HSS) ?_
                · have za := HSS
                  have za_0 := za.c0; have za_1 := za.c1; have za_2 := za.c2; have za_3 := za.c3; have za_4 := za.c4
                  go_simp
                simp only [Act.put, List.setIfInBounds_toArray, List.set_cons_zero, List.set_cons_succ]
                refine any_runD 16 53 (.agg #[.int .i64 ((c : Int) - 1), .bool B1, .string ⟨#[]⟩, .slice (some ⟨QS, 0, none⟩) 1 1, .slice none 0 0]) r3 (by kernel_rfl) rfl rfl (by rfl) ?_ (.inr HSS) ?_
                · have za := HSS
                  have za_0 := za.c0; have za_1 := za.c1; have za_2 := za.c2; have za_3 := za.c3; have za_4 := za.c4
                  go_simp
                simp only [Act.put, List.setIfInBounds_toArray, List.set_cons_zero, List.set_cons_succ]
                refine any_callV 17 54 (by kernel_rfl) rfl rfl (by rfl) (fn := 35) (args := #[.agg #[.int .i64 ((c : Int) - 1), .bool B1, .string ⟨#[]⟩, .slice (some ⟨QS, 0, none⟩) 1 1, .slice none 0 0], .int .i64 2]) ?_ (nested_any (.mk ((c : Int) - 1) B1 ⟨#[]⟩ [.mk 2 false ⟨#[49]⟩ [] []] []) _ 2 (by omega) r3 (Vl.up rk3 _ hv0)) ?_
                · go_simp
                rintro e r4 ⟨ua, rfl, hr4, hua⟩
                have rk4 := extV rk3 hr4
                have HSS : Bx r4 R4 (.int .i64 ((c : Int) - 1)) (.bool B1) (.string ⟨#[]⟩) (.slice (some ⟨QS, 0, none⟩) 1 1) (.slice none 0 0) := HSS.below hr4 HSS.lt
                refine ⟨_, rfl, .inr HSS, ?_⟩
                simp only [Act.put, List.setIfInBounds_toArray, List.set_cons_zero, List.set_cons_succ]
                refine any_callV 18 55 (by kernel_rfl) rfl rfl (by rfl) (fn := 3) (args := #[ua]) ?_ (walk_ValueChecks _ _ r4 hua (sm_nest hsm _) (TB.out r4 (extV BWV rk4))) ?_
                · go_simp
                rintro e r5 ⟨rfl, hr5⟩
                have rk5 := extV rk4 hr5
                have HSS : Bx r5 R4 (.int .i64 ((c : Int) - 1)) (.bool B1) (.string ⟨#[]⟩) (.slice (some ⟨QS, 0, none⟩) 1 1) (.slice none 0 0) := HSS.below hr5 HSS.lt
                refine ⟨_, rfl, .inr HSS, ?_⟩
                simp only [Act.put, List.setIfInBounds_toArray, List.set_cons_zero, List.set_cons_succ]
                refine any_runD 19 56 (.bool false) r5 (by kernel_rfl) rfl rfl (by rfl) ?_ (.inr HSS) ?_
                · have za := HSS
                  have za_0 := za.c0; have za_1 := za.c1; have za_2 := za.c2; have za_3 := za.c3; have za_4 := za.c4
                  go_simp
                simp only [Act.put, List.setIfInBounds_toArray, List.set_cons_zero, List.set_cons_succ]
                refine any_runD 20 57 (.bool false) r5 (by kernel_rfl) rfl rfl (by rfl) ?_ (.inr HSS) ?_
                · have za := HSS
                  have za_0 := za.c0; have za_1 := za.c1; have za_2 := za.c2; have za_3 := za.c3; have za_4 := za.c4
                  go_simp
                simp only [Act.put, List.setIfInBounds_toArray, List.set_cons_zero, List.set_cons_succ]
                refine any_runD 21 58 (.bool false) r5 (by kernel_rfl) rfl rfl (by rfl) ?_ (.inr HSS) ?_
                · have za := HSS
                  have za_0 := za.c0; have za_1 := za.c1; have za_2 := za.c2; have za_3 := za.c3; have za_4 := za.c4
                  go_simp
                simp only [Act.put, List.setIfInBounds_toArray, List.set_cons_zero, List.set_cons_succ]
                refine any_takeD 22 59 (.agg #[.int .i64 ((c : Int) - 1), .bool B1, .string ⟨#[]⟩, .slice (some ⟨QS, 0, none⟩) 1 1, .slice none 0 0]) rfl rfl (by kernel_rfl) (by kernel_rfl) (by kernel_rfl) (by kernel_rfl) (fun _ _ _ h => h) (by rfl) ?_ HSS ?_
                · intro w' hS
                  have za := hS
                  have za_0 := za.c0; have za_1 := za.c1; have za_2 := za.c2; have za_3 := za.c3; have za_4 := za.c4
                  go_simp
                simp only [Act.put, List.setIfInBounds_toArray, List.set_cons_zero, List.set_cons_succ]
                refine any_takeD 24 61 (.agg #[.int .i64 ((c : Int) - 1), .bool B1, .string ⟨#[]⟩, .slice (some ⟨QS, 0, none⟩) 1 1, .slice none 0 0]) rfl rfl (by kernel_rfl) (by kernel_rfl) (by kernel_rfl) (by kernel_rfl) (fun _ _ _ h => h) (by rfl) ?_ HSS ?_
                · intro w' hS
                  have za := hS
                  have za_0 := za.c0; have za_1 := za.c1; have za_2 := za.c2; have za_3 := za.c3; have za_4 := za.c4
                  go_simp
                simp only [Act.put, List.setIfInBounds_toArray, List.set_cons_zero, List.set_cons_succ]
                refine any_callV 23 60 (by kernel_rfl) rfl rfl (by rfl) (fn := 35) (args := #[.agg #[.int .i64 ((c : Int) - 1), .bool B1, .string ⟨#[]⟩, .slice (some ⟨QS, 0, none⟩) 1 1, .slice none 0 0], .int .i64 1]) ?_ (nested_any (.mk ((c : Int) - 1) B1 ⟨#[]⟩ [.mk 2 false ⟨#[49]⟩ [] []] []) _ 1 (by omega) r5 (Vl.up rk5 _ hv0)) ?_
                · go_simp
                rintro e r6 ⟨ub, rfl, hr6, hub⟩
                have rk6 := extV rk5 hr6
                have HSS : Bx r6 R4 (.int .i64 ((c : Int) - 1)) (.bool B1) (.string ⟨#[]⟩) (.slice (some ⟨QS, 0, none⟩) 1 1) (.slice none 0 0) := HSS.below hr6 HSS.lt
                refine ⟨_, rfl, .inr HSS, ?_⟩
                simp only [Act.put, List.setIfInBounds_toArray, List.set_cons_zero, List.set_cons_succ]
                refine any_callV 25 62 (by kernel_rfl) rfl rfl (by rfl) (fn := 35) (args := #[.agg #[.int .i64 ((c : Int) - 1), .bool B1, .string ⟨#[]⟩, .slice (some ⟨QS, 0, none⟩) 1 1, .slice none 0 0], .int .i64 2]) ?_ (nested_any (.mk ((c : Int) - 1) B1 ⟨#[]⟩ [.mk 2 false ⟨#[49]⟩ [] []] []) _ 2 (by omega) r6 (Vl.up rk6 _ hv0)) ?_
                · go_simp
                rintro e r7 ⟨uc, rfl, hr7, huc⟩
                have rk7 := extV rk6 hr7
                have hub := Vl.up hr7 _ hub
                have HSS : Bx r7 R4 (.int .i64 ((c : Int) - 1)) (.bool B1) (.string ⟨#[]⟩) (.slice (some ⟨QS, 0, none⟩) 1 1) (.slice none 0 0) := HSS.below hr7 HSS.lt
                refine ⟨_, rfl, .inr HSS, ?_⟩
                simp only [Act.put, List.setIfInBounds_toArray, List.set_cons_zero, List.set_cons_succ]
                refine any_callV 26 63 (by kernel_rfl) rfl rfl (by rfl) (fn := 4) (args := #[ub, uc]) ?_ (walk_ValueEquals _ _ _ _ r7 hub (sm_nest hsm _) huc (sm_nest hsm _) (TB.out r7 (extV BWV rk7))) ?_
                · go_simp
                rintro e r8 ⟨rfl, hr8⟩
                have rk8 := extV rk7 hr8
                have HSS : Bx r8 R4 (.int .i64 ((c : Int) - 1)) (.bool B1) (.string ⟨#[]⟩) (.slice (some ⟨QS, 0, none⟩) 1 1) (.slice none 0 0) := HSS.below hr8 HSS.lt
                refine ⟨_, rfl, .inr HSS, ?_⟩
                simp only [Act.put, List.setIfInBounds_toArray, List.set_cons_zero, List.set_cons_succ]
                refine any_runD 27 64 (.bool false) r8 (by kernel_rfl) rfl rfl (by rfl) ?_ (.inr HSS) ?_
                · have za := HSS
                  have za_0 := za.c0; have za_1 := za.c1; have za_2 := za.c2; have za_3 := za.c3; have za_4 := za.c4
                  go_simp
                simp only [Act.put, List.setIfInBounds_toArray, List.set_cons_zero, List.set_cons_succ]
                refine any_runD 28 65 (.bool false) r8 (by kernel_rfl) rfl rfl (by rfl) ?_ (.inr HSS) ?_
                · have za := HSS
                  have za_0 := za.c0; have za_1 := za.c1; have za_2 := za.c2; have za_3 := za.c3; have za_4 := za.c4
                  go_simp
                simp only [Act.put, List.setIfInBounds_toArray, List.set_cons_zero, List.set_cons_succ]
                refine any_done (by kernel_rfl) ?_ _
                refine calm_normal ?_
                have LB := Lib.hid (hbx.trans (rk8.mono hbx.size))
                clear HSS px hv0 hsm hbx BWV
                go_wp2_with fail
                exact ⟨⟨b + 1, by go_num, by omega, LB⟩, by simp [intOf]; omega⟩
              | true =>
                obtain ⟨QN, hQN⟩ : ∃ Q, W8s.heap.size = Q := ⟨_, rfl⟩
                obtain ⟨W8sn, hWn⟩ : ∃ W, W8s.alloc (.cells #[.string ⟨#[110]⟩] 9) = W := ⟨_, rfl⟩
                have hbn : Below W8s.heap.size W8s W8sn := by rw [← hWn]; exact below_allocV W8s _
                have hnm0 : Nm W8sn (some ⟨QN, 0, none⟩) 1 1 [⟨#[110]⟩] := Nm.one_at (by rw [← hWn, ← hQN]; exact heap_alloc_new W8s _)
                have hRQ : R4 < QN := by have := hx.lt; omega
                have hx := hx.below hbn hx.lt
                have e0 := hx.c0; have f0 := hx.fz 0; have e1 := hx.c1; have f1 := hx.fz 1; have e2 := hx.c2; have f2 := hx.fz 2; have e3 := hx.c3; have f3 := hx.fz 3; have e4 := hx.c4; have f4 := hx.fz 4
                go_upto_region 15 with fail
                have hst : ∀ z, z ≠ R4 → (W8sn.setCell ⟨R4, 4, none⟩ (.slice (some ⟨QN, 0, none⟩) 1 1)).heap[z]? = W8sn.heap[z]? := fun z hz => Below.heap_setCell _ _ _ _ hz
                have hy := hx.set4 (.slice (some ⟨QN, 0, none⟩) 1 1)
                have hby := (hbx.trans (hbn.mono hbx.size)).setCell (p := ⟨R4, 4, none⟩) hRw (.slice (some ⟨QN, 0, none⟩) 1 1)
                have hnm := hnm0.same (w' := W8sn.setCell ⟨R4, 4, none⟩ (.slice (some ⟨QN, 0, none⟩) 1 1)) (fun g off e _ => by injection e with e; injection e with e1 e2; subst e1; exact hst _ (by omega))
                clear e0 f0 e1 f1 e2 f2 e3 f3 e4 f4
                clear hst hx hbx hbn hnm0 hWn hQN
                obtain ⟨W8ss, hW'⟩ : ∃ W, W8sn.setCell ⟨R4, 4, none⟩ (.slice (some ⟨QN, 0, none⟩) 1 1) = W := ⟨_, rfl⟩
                rw [hW'] at hy hby hnm ⊢
                clear hW'
                have hx := hy
                have hbx := hby
                clear hy hby
                have hv0 : Vl W8ss (.agg #[.int .i64 ((c : Int) - 1), .bool B1, .string ⟨#[]⟩, .slice (some ⟨QS, 0, none⟩) 1 1, .slice (some ⟨QN, 0, none⟩) 1 1]) (.mk ((c : Int) - 1) B1 ⟨#[]⟩ [.mk 2 false ⟨#[49]⟩ [] []] [⟨#[110]⟩]) := Vl.shut (t := (.mk ((c : Int) - 1) B1 ⟨#[]⟩ [.mk 2 false ⟨#[49]⟩ [] []] [⟨#[110]⟩])) (HVL.out.below hbx) (hnm) (show (-9223372036854775808 : Int) ≤ (c : Int) - 1 ∧ (c : Int) - 1 ≤ 9223372036854775807 by omega) (show ByteArray.size ⟨#[]⟩ ≤ 140737488351232 by decide)
                have hsm : Sm (.mk ((c : Int) - 1) B1 ⟨#[]⟩ [.mk 2 false ⟨#[49]⟩ [] []] [⟨#[110]⟩]) := Sm.mk (fun x hx => by simp at hx; subst hx; decide) (fun x hx => by simp at hx; subst hx; exact SM1.out)
                have BWV : Below w.heap.size w W8ss := B2.out.trans (hbx.mono B2.out.size)
                have px := hx
                clear hx
                go_upto_region 15 with fail
                have hsz1 : (⟨#[110]⟩ : ByteArray).size ≤ 140737488351232 := by decide
                have HSS : Bx W8ss.drew R4 (.int .i64 ((c : Int) - 1)) (.bool B1) (.string ⟨#[]⟩) (.slice (some ⟨QS, 0, none⟩) 1 1) (.slice (some ⟨QN, 0, none⟩) 1 1) := Bx.same px rfl
                refine region_calm (fun w' => Bx w' R4 (.int .i64 ((c : Int) - 1)) (.bool B1) (.string ⟨#[]⟩) (.slice (some ⟨QS, 0, none⟩) 1 1) (.slice (some ⟨QN, 0, none⟩) 1 1)) [4, 22, 24] (by kernel_rfl) ?_
                have rk0 : Below W8ss.heap.size W8ss W8ss.drew := ⟨rfl, rfl, rfl, Nat.le_refl _, fun _ _ => rfl⟩
                refine any_runD 0 37 (.agg #[.int .i64 ((c : Int) - 1), .bool B1, .string ⟨#[]⟩, .slice (some ⟨QS, 0, none⟩) 1 1, .slice (some ⟨QN, 0, none⟩) 1 1]) W8ss.drew (by kernel_rfl) rfl rfl (by rfl) ?_ (.inr HSS) ?_
                · have za := HSS
                  have za_0 := za.c0; have za_1 := za.c1; have za_2 := za.c2; have za_3 := za.c3; have za_4 := za.c4
                  go_simp
                simp only [Act.put, List.setIfInBounds_toArray, List.set_cons_zero, List.set_cons_succ]
                refine any_callV 1 38 (by kernel_rfl) rfl rfl (by rfl) (fn := 3) (args := #[.agg #[.int .i64 ((c : Int) - 1), .bool B1, .string ⟨#[]⟩, .slice (some ⟨QS, 0, none⟩) 1 1, .slice (some ⟨QN, 0, none⟩) 1 1]]) ?_ (walk_ValueChecks _ (.mk ((c : Int) - 1) B1 ⟨#[]⟩ [.mk 2 false ⟨#[49]⟩ [] []] [⟨#[110]⟩]) W8ss.drew (Vl.up rk0 _ hv0) hsm (TB.out W8ss.drew (extV BWV rk0))) ?_
                · go_simp
                rintro e r1 ⟨rfl, hr1⟩
                have rk1 := extV rk0 hr1
                have HSS : Bx r1 R4 (.int .i64 ((c : Int) - 1)) (.bool B1) (.string ⟨#[]⟩) (.slice (some ⟨QS, 0, none⟩) 1 1) (.slice (some ⟨QN, 0, none⟩) 1 1) := HSS.below hr1 HSS.lt
                refine ⟨_, rfl, .inr HSS, ?_⟩
                simp only [Act.put, List.setIfInBounds_toArray, List.set_cons_zero, List.set_cons_succ]
                refine any_runD 2 39 (.bool false) r1 (by kernel_rfl) rfl rfl (by rfl) ?_ (.inr HSS) ?_
                · have za := HSS
                  have za_0 := za.c0; have za_1 := za.c1; have za_2 := za.c2; have za_3 := za.c3; have za_4 := za.c4
                  go_simp
                simp only [Act.put, List.setIfInBounds_toArray, List.set_cons_zero, List.set_cons_succ]
                refine any_runD 3 40 (.bool false) r1 (by kernel_rfl) rfl rfl (by rfl) ?_ (.inr HSS) ?_
                · have za := HSS
                  have za_0 := za.c0; have za_1 := za.c1; have za_2 := za.c2; have za_3 := za.c3; have za_4 := za.c4
                  go_simp
                simp only [Act.put, List.setIfInBounds_toArray, List.set_cons_zero, List.set_cons_succ]
                refine any_takeD 4 41 (.agg #[.int .i64 ((c : Int) - 1), .bool B1, .string ⟨#[]⟩, .slice (some ⟨QS, 0, none⟩) 1 1, .slice (some ⟨QN, 0, none⟩) 1 1]) rfl rfl (by kernel_rfl) (by kernel_rfl) (by kernel_rfl) (by kernel_rfl) (fun _ _ _ h => h) (by rfl) ?_ HSS ?_
                · intro w' hS
                  have za := hS
                  have za_0 := za.c0; have za_1 := za.c1; have za_2 := za.c2; have za_3 := za.c3; have za_4 := za.c4
                  go_simp
                simp only [Act.put, List.setIfInBounds_toArray, List.set_cons_zero, List.set_cons_succ]
                refine any_runD 5 42 (.int .i64 ((c : Int) - 1)) r1 (by kernel_rfl) rfl rfl (by rfl) ?_ (.inr HSS) ?_
                · have za := HSS
                  have za_0 := za.c0; have za_1 := za.c1; have za_2 := za.c2; have za_3 := za.c3; have za_4 := za.c4
                  go_simp
                simp only [Act.put, List.setIfInBounds_toArray, List.set_cons_zero, List.set_cons_succ]
                refine any_runD 6 43 (.agg #[.int .i64 ((c : Int) - 1), .bool false, .string ⟨#[]⟩, .slice none 0 0, .slice none 0 0]) r1 (by kernel_rfl) rfl rfl (by rfl) ?_ (.inr HSS) ?_
                · have za := HSS
                  have za_0 := za.c0; have za_1 := za.c1; have za_2 := za.c2; have za_3 := za.c3; have za_4 := za.c4
                  go_simp
                simp only [Act.put, List.setIfInBounds_toArray, List.set_cons_zero, List.set_cons_succ]
                refine any_callV 7 44 (by kernel_rfl) rfl rfl (by rfl) (fn := 4) (args := #[.agg #[.int .i64 ((c : Int) - 1), .bool B1, .string ⟨#[]⟩, .slice (some ⟨QS, 0, none⟩) 1 1, .slice (some ⟨QN, 0, none⟩) 1 1], .agg #[.int .i64 ((c : Int) - 1), .bool false, .string ⟨#[]⟩, .slice none 0 0, .slice none 0 0]]) ?_ (walk_ValueEquals _ (.mk ((c : Int) - 1) B1 ⟨#[]⟩ [.mk 2 false ⟨#[49]⟩ [] []] [⟨#[110]⟩]) _ (.mk ((c : Int) - 1) false ⟨#[]⟩ [] []) r1 (Vl.up rk1 _ hv0) hsm (vl_plain r1 false (s := ⟨#[]⟩) ⟨by omega, by omega⟩ (by decide)) (sm_plain _ _ _) (TB.out r1 (extV BWV rk1))) ?_
                · go_simp
                rintro e r2 ⟨rfl, hr2⟩
                have rk2 := extV rk1 hr2
                have HSS : Bx r2 R4 (.int .i64 ((c : Int) - 1)) (.bool B1) (.string ⟨#[]⟩) (.slice (some ⟨QS, 0, none⟩) 1 1) (.slice (some ⟨QN, 0, none⟩) 1 1) := HSS.below hr2 HSS.lt
                refine ⟨_, rfl, .inr HSS, ?_⟩
                simp only [Act.put, List.setIfInBounds_toArray, List.set_cons_zero, List.set_cons_succ]
                refine any_runD 8 45 (.bool false) r2 (by kernel_rfl) rfl rfl (by rfl) ?_ (.inr HSS) ?_
                · have za := HSS
                  have za_0 := za.c0; have za_1 := za.c1; have za_2 := za.c2; have za_3 := za.c3; have za_4 := za.c4
                  go_simp
                simp only [Act.put, List.setIfInBounds_toArray, List.set_cons_zero, List.set_cons_succ]
                refine any_runD 9 46 (.bool false) r2 (by kernel_rfl) rfl rfl (by rfl) ?_ (.inr HSS) ?_
                · have za := HSS
                  have za_0 := za.c0; have za_1 := za.c1; have za_2 := za.c2; have za_3 := za.c3; have za_4 := za.c4
                  go_simp
                simp only [Act.put, List.setIfInBounds_toArray, List.set_cons_zero, List.set_cons_succ]
                refine any_runD 10 47 (.bool false) r2 (by kernel_rfl) rfl rfl (by rfl) ?_ (.inr HSS) ?_
                · have za := HSS
                  have za_0 := za.c0; have za_1 := za.c1; have za_2 := za.c2; have za_3 := za.c3; have za_4 := za.c4
                  go_simp
                simp only [Act.put, List.setIfInBounds_toArray, List.set_cons_zero, List.set_cons_succ]
                refine any_runD 11 48 (.agg #[.int .i64 ((c : Int) - 1), .bool B1, .string ⟨#[]⟩, .slice (some ⟨QS, 0, none⟩) 1 1, .slice (some ⟨QN, 0, none⟩) 1 1]) r2 (by kernel_rfl) rfl rfl (by rfl) ?_ (.inr HSS) ?_
                · have za := HSS
                  have za_0 := za.c0; have za_1 := za.c1; have za_2 := za.c2; have za_3 := za.c3; have za_4 := za.c4
                  go_simp
                simp only [Act.put, List.setIfInBounds_toArray, List.set_cons_zero, List.set_cons_succ]
                refine any_callV 12 49 (by kernel_rfl) rfl rfl (by rfl) (fn := 5) (args := #[.agg #[.int .i64 ((c : Int) - 1), .bool B1, .string ⟨#[]⟩, .slice (some ⟨QS, 0, none⟩) 1 1, .slice (some ⟨QN, 0, none⟩) 1 1], .string ⟨#[110]⟩]) ?_ (walk_ValueGets _ (.mk ((c : Int) - 1) B1 ⟨#[]⟩ [.mk 2 false ⟨#[49]⟩ [] []] [⟨#[110]⟩]) ⟨#[110]⟩ r2 (Vl.up rk2 _ hv0) hsm (by decide) (by decide) (TB.out r2 (extV BWV rk2))) ?_
                · go_simp
                rintro e r3 ⟨rfl, hr3⟩
                have rk3 := extV rk2 hr3
                have HSS : Bx r3 R4 (.int .i64 ((c : Int) - 1)) (.bool B1) (.string ⟨#[]⟩) (.slice (some ⟨QS, 0, none⟩) 1 1) (.slice (some ⟨QN, 0, none⟩) 1 1) := HSS.below hr3 HSS.lt
                refine ⟨_, rfl, .inr HSS, ?_⟩
                simp only [Act.put, List.setIfInBounds_toArray, List.set_cons_zero, List.set_cons_succ]
                refine any_runD 13 50 (.bool false) r3 (by kernel_rfl) rfl rfl (by rfl) ?_ (.inr HSS) ?_
                · have za := HSS
                  have za_0 := za.c0; have za_1 := za.c1; have za_2 := za.c2; have za_3 := za.c3; have za_4 := za.c4
                  go_simp
                simp only [Act.put, List.setIfInBounds_toArray, List.set_cons_zero, List.set_cons_succ]
                refine any_runD 14 51 (.bool false) r3 (by kernel_rfl) rfl rfl (by rfl) ?_ (.inr HSS) ?_
                · have za := HSS
                  have za_0 := za.c0; have za_1 := za.c1; have za_2 := za.c2; have za_3 := za.c3; have za_4 := za.c4
                  go_simp
                simp only [Act.put, List.setIfInBounds_toArray, List.set_cons_zero, List.set_cons_succ]
                refine any_runD 15 52 (.bool false) r3 (by kernel_rfl) rfl rfl (by rfl) ?_ (.inr HSS) ?_
                · have za := HSS
                  have za_0 := za.c0; have za_1 := za.c1; have za_2 := za.c2; have za_3 := za.c3; have za_4 := za.c4
                  go_simp
                simp only [Act.put, List.setIfInBounds_toArray, List.set_cons_zero, List.set_cons_succ]
                refine any_runD 16 53 (.agg #[.int .i64 ((c : Int) - 1), .bool B1, .string ⟨#[]⟩, .slice (some ⟨QS, 0, none⟩) 1 1, .slice (some ⟨QN, 0, none⟩) 1 1]) r3 (by kernel_rfl) rfl rfl (by rfl) ?_ (.inr HSS) ?_
                · have za := HSS
                  have za_0 := za.c0; have za_1 := za.c1; have za_2 := za.c2; have za_3 := za.c3; have za_4 := za.c4
                  go_simp
                simp only [Act.put, List.setIfInBounds_toArray, List.set_cons_zero, List.set_cons_succ]
                refine any_callV 17 54 (by kernel_rfl) rfl rfl (by rfl) (fn := 35) (args := #[.agg #[.int .i64 ((c : Int) - 1), .bool B1, .string ⟨#[]⟩, .slice (some ⟨QS, 0, none⟩) 1 1, .slice (some ⟨QN, 0, none⟩) 1 1], .int .i64 2]) ?_ (nested_any (.mk ((c : Int) - 1) B1 ⟨#[]⟩ [.mk 2 false ⟨#[49]⟩ [] []] [⟨#[110]⟩]) _ 2 (by omega) r3 (Vl.up rk3 _ hv0)) ?_
                · go_simp
                rintro e r4 ⟨ua, rfl, hr4, hua⟩
                have rk4 := extV rk3 hr4
                have HSS : Bx r4 R4 (.int .i64 ((c : Int) - 1)) (.bool B1) (.string ⟨#[]⟩) (.slice (some ⟨QS, 0, none⟩) 1 1) (.slice (some ⟨QN, 0, none⟩) 1 1) := HSS.below hr4 HSS.lt
                refine ⟨_, rfl, .inr HSS, ?_⟩
                simp only [Act.put, List.setIfInBounds_toArray, List.set_cons_zero, List.set_cons_succ]
                refine any_callV 18 55 (by kernel_rfl) rfl rfl (by rfl) (fn := 3) (args := #[ua]) ?_ (walk_ValueChecks _ _ r4 hua (sm_nest hsm _) (TB.out r4 (extV BWV rk4))) ?_
                · go_simp
                rintro e r5 ⟨rfl, hr5⟩
                have rk5 := extV rk4 hr5
                have HSS : Bx r5 R4 (.int .i64 ((c : Int) - 1)) (.bool B1) (.string ⟨#[]⟩) (.slice (some ⟨QS, 0, none⟩) 1 1) (.slice (some ⟨QN, 0, none⟩) 1 1) := HSS.below hr5 HSS.lt
                refine ⟨_, rfl, .inr HSS, ?_⟩
                simp only [Act.put, List.setIfInBounds_toArray, List.set_cons_zero, List.set_cons_succ]
                refine any_runD 19 56 (.bool false) r5 (by kernel_rfl) rfl rfl (by rfl) ?_ (.inr HSS) ?_
                · have za := HSS
                  have za_0 := za.c0; have za_1 := za.c1; have za_2 := za.c2; have za_3 := za.c3; have za_4 := za.c4
                  go_simp
                simp only [Act.put, List.setIfInBounds_toArray, List.set_cons_zero, List.set_cons_succ]
                refine any_runD 20 57 (.bool false) r5 (by kernel_rfl) rfl rfl (by rfl) ?_ (.inr HSS) ?_
                · have za := HSS
                  have za_0 := za.c0; have za_1 := za.c1; have za_2 := za.c2; have za_3 := za.c3; have za_4 := za.c4
                  go_simp
                simp only [Act.put, List.setIfInBounds_toArray, List.set_cons_zero, List.set_cons_succ]
                refine any_runD 21 58 (.bool false) r5 (by kernel_rfl) rfl rfl (by rfl) ?_ (.inr HSS) ?_
                · have za := HSS
                  have za_0 := za.c0; have za_1 := za.c1; have za_2 := za.c2; have za_3 := za.c3; have za_4 := za.c4
                  go_simp
                simp only [Act.put, List.setIfInBounds_toArray, List.set_cons_zero, List.set_cons_succ]
                refine any_takeD 22 59 (.agg #[.int .i64 ((c : Int) - 1), .bool B1, .string ⟨#[]⟩, .slice (some ⟨QS, 0, none⟩) 1 1, .slice (some ⟨QN, 0, none⟩) 1 1]) rfl rfl (by kernel_rfl) (by kernel_rfl) (by kernel_rfl) (by kernel_rfl) (fun _ _ _ h => h) (by rfl) ?_ HSS ?_
                · intro w' hS
                  have za := hS
                  have za_0 := za.c0; have za_1 := za.c1; have za_2 := za.c2; have za_3 := za.c3; have za_4 := za.c4
                  go_simp
                simp only [Act.put, List.setIfInBounds_toArray, List.set_cons_zero, List.set_cons_succ]
                refine any_takeD 24 61 (.agg #[.int .i64 ((c : Int) - 1), .bool B1, .string ⟨#[]⟩, .slice (some ⟨QS, 0, none⟩) 1 1, .slice (some ⟨QN, 0, none⟩) 1 1]) rfl rfl (by kernel_rfl) (by kernel_rfl) (by kernel_rfl) (by kernel_rfl) (fun _ _ _ h => h) (by rfl) ?_ HSS ?_
                · intro w' hS
                  have za := hS
                  have za_0 := za.c0; have za_1 := za.c1; have za_2 := za.c2; have za_3 := za.c3; have za_4 := za.c4
                  go_simp
                simp only [Act.put, List.setIfInBounds_toArray, List.set_cons_zero, List.set_cons_succ]
                refine any_callV 23 60 (by kernel_rfl) rfl rfl (by rfl) (fn := 35) (args := #[.agg #[.int .i64 ((c : Int) - 1), .bool B1, .string ⟨#[]⟩, .slice (some ⟨QS, 0, none⟩) 1 1, .slice (some ⟨QN, 0, none⟩) 1 1], .int .i64 1]) ?_ (nested_any (.mk ((c : Int) - 1) B1 ⟨#[]⟩ [.mk 2 false ⟨#[49]⟩ [] []] [⟨#[110]⟩]) _ 1 (by omega) r5 (Vl.up rk5 _ hv0)) ?_
                · go_simp
                rintro e r6 ⟨ub, rfl, hr6, hub⟩
                have rk6 := extV rk5 hr6
                have HSS : Bx r6 R4 (.int .i64 ((c : Int) - 1)) (.bool B1) (.string ⟨#[]⟩) (.slice (some ⟨QS, 0, none⟩) 1 1) (.slice (some ⟨QN, 0, none⟩) 1 1) := HSS.below hr6 HSS.lt
                refine ⟨_, rfl, .inr HSS, ?_⟩
                simp only [Act.put, List.setIfInBounds_toArray, List.set_cons_zero, List.set_cons_succ]
                refine any_callV 25 62 (by kernel_rfl) rfl rfl (by rfl) (fn := 35) (args := #[.agg #[.int .i64 ((c : Int) - 1), .bool B1, .string ⟨#[]⟩, .slice (some ⟨QS, 0, none⟩) 1 1, .slice (some ⟨QN, 0, none⟩) 1 1], .int .i64 2]) ?_ (nested_any (.mk ((c : Int) - 1) B1 ⟨#[]⟩ [.mk 2 false ⟨#[49]⟩ [] []] [⟨#[110]⟩]) _ 2 (by omega) r6 (Vl.up rk6 _ hv0)) ?_
                · go_simp
                rintro e r7 ⟨uc, rfl, hr7, huc⟩
                have rk7 := extV rk6 hr7
                have hub := Vl.up hr7 _ hub
                have HSS : Bx r7 R4 (.int .i64 ((c : Int) - 1)) (.bool B1) (.string ⟨#[]⟩) (.slice (some ⟨QS, 0, none⟩) 1 1) (.slice (some ⟨QN, 0, none⟩) 1 1) := HSS.below hr7 HSS.lt
                refine ⟨_, rfl, .inr HSS, ?_⟩
                simp only [Act.put, List.setIfInBounds_toArray, List.set_cons_zero, List.set_cons_succ]
                refine any_callV 26 63 (by kernel_rfl) rfl rfl (by rfl) (fn := 4) (args := #[ub, uc]) ?_ (walk_ValueEquals _ _ _ _ r7 hub (sm_nest hsm _) huc (sm_nest hsm _) (TB.out r7 (extV BWV rk7))) ?_
                · go_simp
                rintro e r8 ⟨rfl, hr8⟩
                have rk8 := extV rk7 hr8
                have HSS : Bx r8 R4 (.int .i64 ((c : Int) - 1)) (.bool B1) (.string ⟨#[]⟩) (.slice (some ⟨QS, 0, none⟩) 1 1) (.slice (some ⟨QN, 0, none⟩) 1 1) := HSS.below hr8 HSS.lt
                refine ⟨_, rfl, .inr HSS, ?_⟩
                simp only [Act.put, List.setIfInBounds_toArray, List.set_cons_zero, List.set_cons_succ]
                refine any_runD 27 64 (.bool false) r8 (by kernel_rfl) rfl rfl (by rfl) ?_ (.inr HSS) ?_
                · have za := HSS
                  have za_0 := za.c0; have za_1 := za.c1; have za_2 := za.c2; have za_3 := za.c3; have za_4 := za.c4
                  go_simp
                simp only [Act.put, List.setIfInBounds_toArray, List.set_cons_zero, List.set_cons_succ]
                refine any_runD 28 65 (.bool false) r8 (by kernel_rfl) rfl rfl (by rfl) ?_ (.inr HSS) ?_
                · have za := HSS
                  have za_0 := za.c0; have za_1 := za.c1; have za_2 := za.c2; have za_3 := za.c3; have za_4 := za.c4
                  go_simp
                simp only [Act.put, List.setIfInBounds_toArray, List.set_cons_zero, List.set_cons_succ]
                refine any_done (by kernel_rfl) ?_ _
                refine calm_normal ?_
                have LB := Lib.hid (hbx.trans (rk8.mono hbx.size))
                clear HSS px hv0 hsm hbx BWV
                go_wp2_with fail
                exact ⟨⟨b + 1, by go_num, by omega, LB⟩, by simp [intOf]; omega⟩
          | true =>
            have e0 := hx.c0; have f0 := hx.fz 0; have e1 := hx.c1; have f1 := hx.fz 1; have e2 := hx.c2; have f2 := hx.fz 2; have e3 := hx.c3; have f3 := hx.fz 3; have e4 := hx.c4; have f4 := hx.fz 4
            go_upto_region 11 with fail
            have hst : ∀ z, z ≠ R4 → (W8.setCell ⟨R4, 2, none⟩ (.string ⟨#[49]⟩)).heap[z]? = W8.heap[z]? := fun z hz => Below.heap_setCell _ _ _ _ hz
            have hy := hx.set2 (.string ⟨#[49]⟩)
            have hby := (hbx).setCell (p := ⟨R4, 2, none⟩) hRw (.string ⟨#[49]⟩)
            clear e0 f0 e1 f1 e2 f2 e3 f3 e4 f4
            clear hst hx hbx
            obtain ⟨W8s, hW'⟩ : ∃ W, W8.setCell ⟨R4, 2, none⟩ (.string ⟨#[49]⟩) = W := ⟨_, rfl⟩
            rw [hW'] at hy hby ⊢
            clear hW'
            have hx := hy
            have hbx := hby
            clear hy hby
            cases h4 : (bits .and .i64 (b : Int) 4 == 4) with
            | false =>
              cases h8 : (bits .and .i64 (b : Int) 8 == 8) with
              | false =>
                have hv0 : Vl W8s (.agg #[.int .i64 ((c : Int) - 1), .bool B1, .string ⟨#[49]⟩, .slice none 0 0, .slice none 0 0]) (.mk ((c : Int) - 1) B1 ⟨#[49]⟩ [] []) := Vl.shut (t := (.mk ((c : Int) - 1) B1 ⟨#[49]⟩ [] [])) (VL.none_ W8s) (Nm.none_ W8s) (show (-9223372036854775808 : Int) ≤ (c : Int) - 1 ∧ (c : Int) - 1 ≤ 9223372036854775807 by omega) (show ByteArray.size ⟨#[49]⟩ ≤ 140737488351232 by decide)
                have hsm : Sm (.mk ((c : Int) - 1) B1 ⟨#[49]⟩ [] []) := Sm.mk (fun x hx => by cases hx) (fun x hx => by cases hx)
                have BWV : Below w.heap.size w W8s := B2.out.trans (hbx.mono B2.out.size)
                have px := hx
                clear hx
                go_upto_region 15 with fail
                have hsz1 : (⟨#[110]⟩ : ByteArray).size ≤ 140737488351232 := by decide
                have HSS : Bx W8s.drew R4 (.int .i64 ((c : Int) - 1)) (.bool B1) (.string ⟨#[49]⟩) (.slice none 0 0) (.slice none 0 0) := Bx.same px rfl
                refine region_calm (fun w' => Bx w' R4 (.int .i64 ((c : Int) - 1)) (.bool B1) (.string ⟨#[49]⟩) (.slice none 0 0) (.slice none 0 0)) [4, 22, 24] (by kernel_rfl) ?_
                have rk0 : Below W8s.heap.size W8s W8s.drew := ⟨rfl, rfl, rfl, Nat.le_refl _, fun _ _ => rfl⟩
                refine any_runD 0 37 (.agg #[.int .i64 ((c : Int) - 1), .bool B1, .string ⟨#[49]⟩, .slice none 0 0, .slice none 0 0]) W8s.drew (by kernel_rfl) rfl rfl (by rfl) ?_ (.inr HSS) ?_
                · have za := HSS
                  have za_0 := za.c0; have za_1 := za.c1; have za_2 := za.c2; have za_3 := za.c3; have za_4 := za.c4
                  go_simp
                simp only [Act.put, List.setIfInBounds_toArray, List.set_cons_zero, List.set_cons_succ]
                refine any_callV 1 38 (by kernel_rfl) rfl rfl (by rfl) (fn := 3) (args := #[.agg #[.int .i64 ((c : Int) - 1), .bool B1, .string ⟨#[49]⟩, .slice none 0 0, .slice none 0 0]]) ?_ (walk_ValueChecks _ (.mk ((c : Int) - 1) B1 ⟨#[49]⟩ [] []) W8s.drew (Vl.up rk0 _ hv0) hsm (TB.out W8s.drew (extV BWV rk0))) ?_
                · go_simp
                rintro e r1 ⟨rfl, hr1⟩
                have rk1 := extV rk0 hr1
                have HSS : Bx r1 R4 (.int .i64 ((c : Int) - 1)) (.bool B1) (.string ⟨#[49]⟩) (.slice none 0 0) (.slice none 0 0) := HSS.below hr1 HSS.lt
                refine ⟨_, rfl, .inr HSS, ?_⟩
                simp only [Act.put, List.setIfInBounds_toArray, List.set_cons_zero, List.set_cons_succ]
                refine any_runD 2 39 (.bool false) r1 (by kernel_rfl) rfl rfl (by rfl) ?_ (.inr HSS) ?_
                · have za := HSS
                  have za_0 := za.c0; have za_1 := za.c1; have za_2 := za.c2; have za_3 := za.c3; have za_4 := za.c4
                  go_simp
                simp only [Act.put, List.setIfInBounds_toArray, List.set_cons_zero, List.set_cons_succ]
                refine any_runD 3 40 (.bool false) r1 (by kernel_rfl) rfl rfl (by rfl) ?_ (.inr HSS) ?_
                · have za := HSS
                  have za_0 := za.c0; have za_1 := za.c1; have za_2 := za.c2; have za_3 := za.c3; have za_4 := za.c4
                  go_simp
                simp only [Act.put, List.setIfInBounds_toArray, List.set_cons_zero, List.set_cons_succ]
                refine any_takeD 4 41 (.agg #[.int .i64 ((c : Int) - 1), .bool B1, .string ⟨#[49]⟩, .slice none 0 0, .slice none 0 0]) rfl rfl (by kernel_rfl) (by kernel_rfl) (by kernel_rfl) (by kernel_rfl) (fun _ _ _ h => h) (by rfl) ?_ HSS ?_
                · intro w' hS
                  have za := hS
                  have za_0 := za.c0; have za_1 := za.c1; have za_2 := za.c2; have za_3 := za.c3; have za_4 := za.c4
                  go_simp
                simp only [Act.put, List.setIfInBounds_toArray, List.set_cons_zero, List.set_cons_succ]
                refine any_runD 5 42 (.int .i64 ((c : Int) - 1)) r1 (by kernel_rfl) rfl rfl (by rfl) ?_ (.inr HSS) ?_
                · have za := HSS
                  have za_0 := za.c0; have za_1 := za.c1; have za_2 := za.c2; have za_3 := za.c3; have za_4 := za.c4
                  go_simp
                simp only [Act.put, List.setIfInBounds_toArray, List.set_cons_zero, List.set_cons_succ]
                refine any_runD 6 43 (.agg #[.int .i64 ((c : Int) - 1), .bool false, .string ⟨#[]⟩, .slice none 0 0, .slice none 0 0]) r1 (by kernel_rfl) rfl rfl (by rfl) ?_ (.inr HSS) ?_
                · have za := HSS
                  have za_0 := za.c0; have za_1 := za.c1; have za_2 := za.c2; have za_3 := za.c3; have za_4 := za.c4
                  go_simp
                simp only [Act.put, List.setIfInBounds_toArray, List.set_cons_zero, List.set_cons_succ]
                refine any_callV 7 44 (by kernel_rfl) rfl rfl (by rfl) (fn := 4) (args := #[.agg #[.int .i64 ((c : Int) - 1), .bool B1, .string ⟨#[49]⟩, .slice none 0 0, .slice none 0 0], .agg #[.int .i64 ((c : Int) - 1), .bool false, .string ⟨#[]⟩, .slice none 0 0, .slice none 0 0]]) ?_ (walk_ValueEquals _ (.mk ((c : Int) - 1) B1 ⟨#[49]⟩ [] []) _ (.mk ((c : Int) - 1) false ⟨#[]⟩ [] []) r1 (Vl.up rk1 _ hv0) hsm (vl_plain r1 false (s := ⟨#[]⟩) ⟨by omega, by omega⟩ (by decide)) (sm_plain _ _ _) (TB.out r1 (extV BWV rk1))) ?_
                · go_simp
                rintro e r2 ⟨rfl, hr2⟩
                have rk2 := extV rk1 hr2
                have HSS : Bx r2 R4 (.int .i64 ((c : Int) - 1)) (.bool B1) (.string ⟨#[49]⟩) (.slice none 0 0) (.slice none 0 0) := HSS.below hr2 HSS.lt
                refine ⟨_, rfl, .inr HSS, ?_⟩
                simp only [Act.put, List.setIfInBounds_toArray, List.set_cons_zero, List.set_cons_succ]
                refine any_runD 8 45 (.bool false) r2 (by kernel_rfl) rfl rfl (by rfl) ?_ (.inr HSS) ?_
                · have za := HSS
                  have za_0 := za.c0; have za_1 := za.c1; have za_2 := za.c2; have za_3 := za.c3; have za_4 := za.c4
                  go_simp
                simp only [Act.put, List.setIfInBounds_toArray, List.set_cons_zero, List.set_cons_succ]
                refine any_runD 9 46 (.bool false) r2 (by kernel_rfl) rfl rfl (by rfl) ?_ (.inr HSS) ?_
                · have za := HSS
                  have za_0 := za.c0; have za_1 := za.c1; have za_2 := za.c2; have za_3 := za.c3; have za_4 := za.c4
                  go_simp
                simp only [Act.put, List.setIfInBounds_toArray, List.set_cons_zero, List.set_cons_succ]
                refine any_runD 10 47 (.bool false) r2 (by kernel_rfl) rfl rfl (by rfl) ?_ (.inr HSS) ?_
                · have za := HSS
                  have za_0 := za.c0; have za_1 := za.c1; have za_2 := za.c2; have za_3 := za.c3; have za_4 := za.c4
                  go_simp
                simp only [Act.put, List.setIfInBounds_toArray, List.set_cons_zero, List.set_cons_succ]
                refine any_runD 11 48 (.agg #[.int .i64 ((c : Int) - 1), .bool B1, .string ⟨#[49]⟩, .slice none 0 0, .slice none 0 0]) r2 (by kernel_rfl) rfl rfl (by rfl) ?_ (.inr HSS) ?_
                · have za := HSS
                  have za_0 := za.c0; have za_1 := za.c1; have za_2 := za.c2; have za_3 := za.c3; have za_4 := za.c4
                  go_simp
                simp only [Act.put, List.setIfInBounds_toArray, List.set_cons_zero, List.set_cons_succ]
                refine any_callV 12 49 (by kernel_rfl) rfl rfl (by rfl) (fn := 5) (args := #[.agg #[.int .i64 ((c : Int) - 1), .bool B1, .string ⟨#[49]⟩, .slice none 0 0, .slice none 0 0], .string ⟨#[110]⟩]) ?_ (walk_ValueGets _ (.mk ((c : Int) - 1) B1 ⟨#[49]⟩ [] []) ⟨#[110]⟩ r2 (Vl.up rk2 _ hv0) hsm (by decide) (by decide) (TB.out r2 (extV BWV rk2))) ?_
                · go_simp
                rintro e r3 ⟨rfl, hr3⟩
                have rk3 := extV rk2 hr3
                have HSS : Bx r3 R4 (.int .i64 ((c : Int) - 1)) (.bool B1) (.string ⟨#[49]⟩) (.slice none 0 0) (.slice none 0 0) := HSS.below hr3 HSS.lt
                refine ⟨_, rfl, .inr HSS, ?_⟩
                simp only [Act.put, List.setIfInBounds_toArray, List.set_cons_zero, List.set_cons_succ]
                refine any_runD 13 50 (.bool false) r3 (by kernel_rfl) rfl rfl (by rfl) ?_ (.inr HSS) ?_
                · have za := HSS
                  have za_0 := za.c0; have za_1 := za.c1; have za_2 := za.c2; have za_3 := za.c3; have za_4 := za.c4
                  go_simp
                simp only [Act.put, List.setIfInBounds_toArray, List.set_cons_zero, List.set_cons_succ]
                refine any_runD 14 51 (.bool false) r3 (by kernel_rfl) rfl rfl (by rfl) ?_ (.inr HSS) ?_
                · have za := HSS
                  have za_0 := za.c0; have za_1 := za.c1; have za_2 := za.c2; have za_3 := za.c3; have za_4 := za.c4
                  go_simp
                simp only [Act.put, List.setIfInBounds_toArray, List.set_cons_zero, List.set_cons_succ]
                refine any_runD 15 52 (.bool false) r3 (by kernel_rfl) rfl rfl (by rfl) ?_ (.inr HSS) ?_
                · have za := HSS
                  have za_0 := za.c0; have za_1 := za.c1; have za_2 := za.c2; have za_3 := za.c3; have za_4 := za.c4
                  go_simp
                simp only [Act.put, List.setIfInBounds_toArray, List.set_cons_zero, List.set_cons_succ]
                refine any_runD 16 53 (.agg #[.int .i64 ((c : Int) - 1), .bool B1, .string ⟨#[49]⟩, .slice none 0 0, .slice none 0 0]) r3 (by kernel_rfl) rfl rfl (by rfl) ?_ (.inr HSS) ?_
                · have za := HSS
                  have za_0 := za.c0; have za_1 := za.c1; have za_2 := za.c2; have za_3 := za.c3; have za_4 := za.c4
                  go_simp
                simp only [Act.put, List.setIfInBounds_toArray, List.set_cons_zero, List.set_cons_succ]
                refine any_callV 17 54 (by kernel_rfl) rfl rfl (by rfl) (fn := 35) (args := #[.agg #[.int .i64 ((c : Int) - 1), .bool B1, .string ⟨#[49]⟩, .slice none 0 0, .slice none 0 0], .int .i64 2]) ?_ (nested_any (.mk ((c : Int) - 1) B1 ⟨#[49]⟩ [] []) _ 2 (by omega) r3 (Vl.up rk3 _ hv0)) ?_
                · go_simp
                rintro e r4 ⟨ua, rfl, hr4, hua⟩
                have rk4 := extV rk3 hr4
                have HSS : Bx r4 R4 (.int .i64 ((c : Int) - 1)) (.bool B1) (.string ⟨#[49]⟩) (.slice none 0 0) (.slice none 0 0) := HSS.below hr4 HSS.lt
                refine ⟨_, rfl, .inr HSS, ?_⟩
                simp only [Act.put, List.setIfInBounds_toArray, List.set_cons_zero, List.set_cons_succ]
                refine any_callV 18 55 (by kernel_rfl) rfl rfl (by rfl) (fn := 3) (args := #[ua]) ?_ (walk_ValueChecks _ _ r4 hua (sm_nest hsm _) (TB.out r4 (extV BWV rk4))) ?_
                · go_simp
                rintro e r5 ⟨rfl, hr5⟩
                have rk5 := extV rk4 hr5
                have HSS : Bx r5 R4 (.int .i64 ((c : Int) - 1)) (.bool B1) (.string ⟨#[49]⟩) (.slice none 0 0) (.slice none 0 0) := HSS.below hr5 HSS.lt
                refine ⟨_, rfl, .inr HSS, ?_⟩
                simp only [Act.put, List.setIfInBounds_toArray, List.set_cons_zero, List.set_cons_succ]
                refine any_runD 19 56 (.bool false) r5 (by kernel_rfl) rfl rfl (by rfl) ?_ (.inr HSS) ?_
                · have za := HSS
                  have za_0 := za.c0; have za_1 := za.c1; have za_2 := za.c2; have za_3 := za.c3; have za_4 := za.c4
                  go_simp
                simp only [Act.put, List.setIfInBounds_toArray, List.set_cons_zero, List.set_cons_succ]
                refine any_runD 20 57 (.bool false) r5 (by kernel_rfl) rfl rfl (by rfl) ?_ (.inr HSS) ?_
                · have za := HSS
                  have za_0 := za.c0; have za_1 := za.c1; have za_2 := za.c2; have za_3 := za.c3; have za_4 := za.c4
                  go_simp
                simp only [Act.put, List.setIfInBounds_toArray, List.set_cons_zero, List.set_cons_succ]
                refine any_runD 21 58 (.bool false) r5 (by kernel_rfl) rfl rfl (by rfl) ?_ (.inr HSS) ?_
                · have za := HSS
                  have za_0 := za.c0; have za_1 := za.c1; have za_2 := za.c2; have za_3 := za.c3; have za_4 := za.c4
                  go_simp
                simp only [Act.put, List.setIfInBounds_toArray, List.set_cons_zero, List.set_cons_succ]
                refine any_takeD 22 59 (.agg #[.int .i64 ((c : Int) - 1), .bool B1, .string ⟨#[49]⟩, .slice none 0 0, .slice none 0 0]) rfl rfl (by kernel_rfl) (by kernel_rfl) (by kernel_rfl) (by kernel_rfl) (fun _ _ _ h => h) (by rfl) ?_ HSS ?_
                · intro w' hS
                  have za := hS
                  have za_0 := za.c0; have za_1 := za.c1; have za_2 := za.c2; have za_3 := za.c3; have za_4 := za.c4
                  go_simp
                simp only [Act.put, List.setIfInBounds_toArray, List.set_cons_zero, List.set_cons_succ]
                refine any_takeD 24 61 (.agg #[.int .i64 ((c : Int) - 1), .bool B1, .string ⟨#[49]⟩, .slice none 0 0, .slice none 0 0]) rfl rfl (by kernel_rfl) (by kernel_rfl) (by kernel_rfl) (by kernel_rfl) (fun _ _ _ h => h) (by rfl) ?_ HSS ?_
                · intro w' hS
                  have za := hS
                  have za_0 := za.c0; have za_1 := za.c1; have za_2 := za.c2; have za_3 := za.c3; have za_4 := za.c4
                  go_simp
                simp only [Act.put, List.setIfInBounds_toArray, List.set_cons_zero, List.set_cons_succ]
                refine any_callV 23 60 (by kernel_rfl) rfl rfl (by rfl) (fn := 35) (args := #[.agg #[.int .i64 ((c : Int) - 1), .bool B1, .string ⟨#[49]⟩, .slice none 0 0, .slice none 0 0], .int .i64 1]) ?_ (nested_any (.mk ((c : Int) - 1) B1 ⟨#[49]⟩ [] []) _ 1 (by omega) r5 (Vl.up rk5 _ hv0)) ?_
                · go_simp
                rintro e r6 ⟨ub, rfl, hr6, hub⟩
                have rk6 := extV rk5 hr6
                have HSS : Bx r6 R4 (.int .i64 ((c : Int) - 1)) (.bool B1) (.string ⟨#[49]⟩) (.slice none 0 0) (.slice none 0 0) := HSS.below hr6 HSS.lt
                refine ⟨_, rfl, .inr HSS, ?_⟩
                simp only [Act.put, List.setIfInBounds_toArray, List.set_cons_zero, List.set_cons_succ]
                refine any_callV 25 62 (by kernel_rfl) rfl rfl (by rfl) (fn := 35) (args := #[.agg #[.int .i64 ((c : Int) - 1), .bool B1, .string ⟨#[49]⟩, .slice none 0 0, .slice none 0 0], .int .i64 2]) ?_ (nested_any (.mk ((c : Int) - 1) B1 ⟨#[49]⟩ [] []) _ 2 (by omega) r6 (Vl.up rk6 _ hv0)) ?_
                · go_simp
                rintro e r7 ⟨uc, rfl, hr7, huc⟩
                have rk7 := extV rk6 hr7
                have hub := Vl.up hr7 _ hub
                have HSS : Bx r7 R4 (.int .i64 ((c : Int) - 1)) (.bool B1) (.string ⟨#[49]⟩) (.slice none 0 0) (.slice none 0 0) := HSS.below hr7 HSS.lt
                refine ⟨_, rfl, .inr HSS, ?_⟩
                simp only [Act.put, List.setIfInBounds_toArray, List.set_cons_zero, List.set_cons_succ]
                refine any_callV 26 63 (by kernel_rfl) rfl rfl (by rfl) (fn := 4) (args := #[ub, uc]) ?_ (walk_ValueEquals _ _ _ _ r7 hub (sm_nest hsm _) huc (sm_nest hsm _) (TB.out r7 (extV BWV rk7))) ?_
                · go_simp
                rintro e r8 ⟨rfl, hr8⟩
                have rk8 := extV rk7 hr8
                have HSS : Bx r8 R4 (.int .i64 ((c : Int) - 1)) (.bool B1) (.string ⟨#[49]⟩) (.slice none 0 0) (.slice none 0 0) := HSS.below hr8 HSS.lt
                refine ⟨_, rfl, .inr HSS, ?_⟩
                simp only [Act.put, List.setIfInBounds_toArray, List.set_cons_zero, List.set_cons_succ]
                refine any_runD 27 64 (.bool false) r8 (by kernel_rfl) rfl rfl (by rfl) ?_ (.inr HSS) ?_
                · have za := HSS
                  have za_0 := za.c0; have za_1 := za.c1; have za_2 := za.c2; have za_3 := za.c3; have za_4 := za.c4
                  go_simp
                simp only [Act.put, List.setIfInBounds_toArray, List.set_cons_zero, List.set_cons_succ]
                refine any_runD 28 65 (.bool false) r8 (by kernel_rfl) rfl rfl (by rfl) ?_ (.inr HSS) ?_
                · have za := HSS
                  have za_0 := za.c0; have za_1 := za.c1; have za_2 := za.c2; have za_3 := za.c3; have za_4 := za.c4
                  go_simp
                simp only [Act.put, List.setIfInBounds_toArray, List.set_cons_zero, List.set_cons_succ]
                refine any_done (by kernel_rfl) ?_ _
                refine calm_normal ?_
                have LB := Lib.hid (hbx.trans (rk8.mono hbx.size))
                clear HSS px hv0 hsm hbx BWV
                go_wp2_with fail
                exact ⟨⟨b + 1, by go_num, by omega, LB⟩, by simp [intOf]; omega⟩
              | true =>
                obtain ⟨QN, hQN⟩ : ∃ Q, W8s.heap.size = Q := ⟨_, rfl⟩
                obtain ⟨W8sn, hWn⟩ : ∃ W, W8s.alloc (.cells #[.string ⟨#[110]⟩] 9) = W := ⟨_, rfl⟩
                have hbn : Below W8s.heap.size W8s W8sn := by rw [← hWn]; exact below_allocV W8s _
                have hnm0 : Nm W8sn (some ⟨QN, 0, none⟩) 1 1 [⟨#[110]⟩] := Nm.one_at (by rw [← hWn, ← hQN]; exact heap_alloc_new W8s _)
                have hRQ : R4 < QN := by have := hx.lt; omega
                have hx := hx.below hbn hx.lt
                have e0 := hx.c0; have f0 := hx.fz 0; have e1 := hx.c1; have f1 := hx.fz 1; have e2 := hx.c2; have f2 := hx.fz 2; have e3 := hx.c3; have f3 := hx.fz 3; have e4 := hx.c4; have f4 := hx.fz 4
                go_upto_region 15 with fail
                have hst : ∀ z, z ≠ R4 → (W8sn.setCell ⟨R4, 4, none⟩ (.slice (some ⟨QN, 0, none⟩) 1 1)).heap[z]? = W8sn.heap[z]? := fun z hz => Below.heap_setCell _ _ _ _ hz
                have hy := hx.set4 (.slice (some ⟨QN, 0, none⟩) 1 1)
                have hby := (hbx.trans (hbn.mono hbx.size)).setCell (p := ⟨R4, 4, none⟩) hRw (.slice (some ⟨QN, 0, none⟩) 1 1)
                have hnm := hnm0.same (w' := W8sn.setCell ⟨R4, 4, none⟩ (.slice (some ⟨QN, 0, none⟩) 1 1)) (fun g off e _ => by injection e with e; injection e with e1 e2; subst e1; exact hst _ (by omega))
                clear e0 f0 e1 f1 e2 f2 e3 f3 e4 f4
                clear hst hx hbx hbn hnm0 hWn hQN
                obtain ⟨W8ss, hW'⟩ : ∃ W, W8sn.setCell ⟨R4, 4, none⟩ (.slice (some ⟨QN, 0, none⟩) 1 1) = W := ⟨_, rfl⟩
                rw [hW'] at hy hby hnm ⊢
                clear hW'
                have hx := hy
                have hbx := hby
                clear hy hby
                have hv0 : Vl W8ss (.agg #[.int .i64 ((c : Int) - 1), .bool B1, .string ⟨#[49]⟩, .slice none 0 0, .slice (some ⟨QN, 0, none⟩) 1 1]) (.mk ((c : Int) - 1) B1 ⟨#[49]⟩ [] [⟨#[110]⟩]) := Vl.shut (t := (.mk ((c : Int) - 1) B1 ⟨#[49]⟩ [] [⟨#[110]⟩])) (VL.none_ W8ss) (hnm) (show (-9223372036854775808 : Int) ≤ (c : Int) - 1 ∧ (c : Int) - 1 ≤ 9223372036854775807 by omega) (show ByteArray.size ⟨#[49]⟩ ≤ 140737488351232 by decide)
                have hsm : Sm (.mk ((c : Int) - 1) B1 ⟨#[49]⟩ [] [⟨#[110]⟩]) := Sm.mk (fun x hx => by simp at hx; subst hx; decide) (fun x hx => by cases hx)
                have BWV : Below w.heap.size w W8ss := B2.out.trans (hbx.mono B2.out.size)
                have px := hx
                clear hx
                go_upto_region 15 with fail
                have hsz1 : (⟨#[110]⟩ : ByteArray).size ≤ 140737488351232 := by decide
                have HSS : Bx W8ss.drew R4 (.int .i64 ((c : Int) - 1)) (.bool B1) (.string ⟨#[49]⟩) (.slice none 0 0) (.slice (some ⟨QN, 0, none⟩) 1 1) := Bx.same px rfl
                refine region_calm (fun w' => Bx w' R4 (.int .i64 ((c : Int) - 1)) (.bool B1) (.string ⟨#[49]⟩) (.slice none 0 0) (.slice (some ⟨QN, 0, none⟩) 1 1)) [4, 22, 24] (by kernel_rfl) ?_
                have rk0 : Below W8ss.heap.size W8ss W8ss.drew := ⟨rfl, rfl, rfl, Nat.le_refl _, fun _ _ => rfl⟩
                refine any_runD 0 37 (.agg #[.int .i64 ((c : Int) - 1), .bool B1, .string ⟨#[49]⟩, .slice none 0 0, .slice (some ⟨QN, 0, none⟩) 1 1]) W8ss.drew (by kernel_rfl) rfl rfl (by rfl) ?_ (.inr HSS) ?_
                · have za := HSS
                  have za_0 := za.c0; have za_1 := za.c1; have za_2 := za.c2; have za_3 := za.c3; have za_4 := za.c4
                  go_simp
                simp only [Act.put, List.setIfInBounds_toArray, List.set_cons_zero, List.set_cons_succ]
                refine any_callV 1 38 (by kernel_rfl) rfl rfl (by rfl) (fn := 3) (args := #[.agg #[.int .i64 ((c : Int) - 1), .bool B1, .string ⟨#[49]⟩, .slice none 0 0, .slice (some ⟨QN, 0, none⟩) 1 1]]) ?_ (walk_ValueChecks _ (.mk ((c : Int) - 1) B1 ⟨#[49]⟩ [] [⟨#[110]⟩]) W8ss.drew (Vl.up rk0 _ hv0) hsm (TB.out W8ss.drew (extV BWV rk0))) ?_
                · go_simp
                rintro e r1 ⟨rfl, hr1⟩
                have rk1 := extV rk0 hr1
                have HSS : Bx r1 R4 (.int .i64 ((c : Int) - 1)) (.bool B1) (.string ⟨#[49]⟩) (.slice none 0 0) (.slice (some ⟨QN, 0, none⟩) 1 1) := HSS.below hr1 HSS.lt
                refine ⟨_, rfl, .inr HSS, ?_⟩
                simp only [Act.put, List.setIfInBounds_toArray, List.set_cons_zero, List.set_cons_succ]
                refine any_runD 2 39 (.bool false) r1 (by kernel_rfl) rfl rfl (by rfl) ?_ (.inr HSS) ?_
                · have za := HSS
                  have za_0 := za.c0; have za_1 := za.c1; have za_2 := za.c2; have za_3 := za.c3; have za_4 := za.c4
                  go_simp
                simp only [Act.put, List.setIfInBounds_toArray, List.set_cons_zero, List.set_cons_succ]
                refine any_runD 3 40 (.bool false) r1 (by kernel_rfl) rfl rfl (by rfl) ?_ (.inr HSS) ?_
                · have za := HSS
                  have za_0 := za.c0; have za_1 := za.c1; have za_2 := za.c2; have za_3 := za.c3; have za_4 := za.c4
                  go_simp
                simp only [Act.put, List.setIfInBounds_toArray, List.set_cons_zero, List.set_cons_succ]
                refine any_takeD 4 41 (.agg #[.int .i64 ((c : Int) - 1), .bool B1, .string ⟨#[49]⟩, .slice none 0 0, .slice (some ⟨QN, 0, none⟩) 1 1]) rfl rfl (by kernel_rfl) (by kernel_rfl) (by kernel_rfl) (by kernel_rfl) (fun _ _ _ h => h) (by rfl) ?_ HSS ?_
                · intro w' hS
                  have za := hS
                  have za_0 := za.c0; have za_1 := za.c1; have za_2 := za.c2; have za_3 := za.c3; have za_4 := za.c4
                  go_simp
                simp only [Act.put, List.setIfInBounds_toArray, List.set_cons_zero, List.set_cons_succ]
                refine any_runD 5 42 (.int .i64 ((c : Int) - 1)) r1 (by kernel_rfl) rfl rfl (by rfl) ?_ (.inr HSS) ?_
                · have za := HSS
                  have za_0 := za.c0; have za_1 := za.c1; have za_2 := za.c2; have za_3 := za.c3; have za_4 := za.c4
                  go_simp
                simp only [Act.put, List.setIfInBounds_toArray, List.set_cons_zero, List.set_cons_succ]
                refine any_runD 6 43 (.agg #[.int .i64 ((c : Int) - 1), .bool false, .string ⟨#[]⟩, .slice none 0 0, .slice none 0 0]) r1 (by kernel_rfl) rfl rfl (by rfl) ?_ (.inr HSS) ?_
                · have za := HSS
                  have za_0 := za.c0; have za_1 := za.c1; have za_2 := za.c2; have za_3 := za.c3; have za_4 := za.c4
                  go_simp
                simp only [Act.put, List.setIfInBounds_toArray, List.set_cons_zero, List.set_cons_succ]
                refine any_callV 7 44 (by kernel_rfl) rfl rfl (by rfl) (fn := 4) (args := #[.agg #[.int .i64 ((c : Int) - 1), .bool B1, .string ⟨#[49]⟩, .slice none 0 0, .slice (some ⟨QN, 0, none⟩) 1 1], .agg #[.int .i64 ((c : Int) - 1), .bool false, .string ⟨#[]⟩, .slice none 0 0, .slice none 0 0]]) ?_ (walk_ValueEquals _ (.mk ((c : Int) - 1) B1 ⟨#[49]⟩ [] [⟨#[110]⟩]) _ (.mk ((c : Int) - 1) false ⟨#[]⟩ [] []) r1 (Vl.up rk1 _ hv0) hsm (vl_plain r1 false (s := ⟨#[]⟩) ⟨by omega, by omega⟩ (by decide)) (sm_plain _ _ _) (TB.out r1 (extV BWV rk1))) ?_
                · go_simp
                rintro e r2 ⟨rfl, hr2⟩
                have rk2 := extV rk1 hr2
                have HSS : Bx r2 R4 (.int .i64 ((c : Int) - 1)) (.bool B1) (.string ⟨#[49]⟩) (.slice none 0 0) (.slice (some ⟨QN, 0, none⟩) 1 1) := HSS.below hr2 HSS.lt
                refine ⟨_, rfl, .inr HSS, ?_⟩
                simp only [Act.put, List.setIfInBounds_toArray, List.set_cons_zero, List.set_cons_succ]
                refine any_runD 8 45 (.bool false) r2 (by kernel_rfl) rfl rfl (by rfl) ?_ (.inr HSS) ?_
                · have za := HSS
                  have za_0 := za.c0; have za_1 := za.c1; have za_2 := za.c2; have za_3 := za.c3; have za_4 := za.c4
                  go_simp
                simp only [Act.put, List.setIfInBounds_toArray, List.set_cons_zero, List.set_cons_succ]
                refine any_runD 9 46 (.bool false) r2 (by kernel_rfl) rfl rfl (by rfl) ?_ (.inr HSS) ?_
                · have za := HSS
                  have za_0 := za.c0; have za_1 := za.c1; have za_2 := za.c2; have za_3 := za.c3; have za_4 := za.c4
                  go_simp
                simp only [Act.put, List.setIfInBounds_toArray, List.set_cons_zero, List.set_cons_succ]
                refine any_runD 10 47 (.bool false) r2 (by kernel_rfl) rfl rfl (by rfl) ?_ (.inr HSS) ?_
                · have za := HSS
                  have za_0 := za.c0; have za_1 := za.c1; have za_2 := za.c2; have za_3 := za.c3; have za_4 := za.c4
                  go_simp
                simp only [Act.put, List.setIfInBounds_toArray, List.set_cons_zero, List.set_cons_succ]
                refine any_runD 11 48 (.agg #[.int .i64 ((c : Int) - 1), .bool B1, .string ⟨#[49]⟩, .slice none 0 0, .slice (some ⟨QN, 0, none⟩) 1 1]) r2 (by kernel_rfl) rfl rfl (by rfl) ?_ (.inr HSS) ?_
                · have za := HSS
                  have za_0 := za.c0; have za_1 := za.c1; have za_2 := za.c2; have za_3 := za.c3; have za_4 := za.c4
                  go_simp
                simp only [Act.put, List.setIfInBounds_toArray, List.set_cons_zero, List.set_cons_succ]
                refine any_callV 12 49 (by kernel_rfl) rfl rfl (by rfl) (fn := 5) (args := #[.agg #[.int .i64 ((c : Int) - 1), .bool B1, .string ⟨#[49]⟩, .slice none 0 0, .slice (some ⟨QN, 0, none⟩) 1 1], .string ⟨#[110]⟩]) ?_ (walk_ValueGets _ (.mk ((c : Int) - 1) B1 ⟨#[49]⟩ [] [⟨#[110]⟩]) ⟨#[110]⟩ r2 (Vl.up rk2 _ hv0) hsm (by decide) (by decide) (TB.out r2 (extV BWV rk2))) ?_
                · go_simp
                rintro e r3 ⟨rfl, hr3⟩
                have rk3 := extV rk2 hr3
                have HSS : Bx r3 R4 (.int .i64 ((c : Int) - 1)) (.bool B1) (.string ⟨#[49]⟩) (.slice none 0 0) (.slice (some ⟨QN, 0, none⟩) 1 1) := HSS.below hr3 HSS.lt
                refine ⟨_, rfl, .inr HSS, ?_⟩
                simp only [Act.put, List.setIfInBounds_toArray, List.set_cons_zero, List.set_cons_succ]
                refine any_runD 13 50 (.bool false) r3 (by kernel_rfl) rfl rfl (by rfl) ?_ (.inr HSS) ?_
                · have za := HSS
                  have za_0 := za.c0; have za_1 := za.c1; have za_2 := za.c2; have za_3 := za.c3; have za_4 := za.c4
                  go_simp
                simp only [Act.put, List.setIfInBounds_toArray, List.set_cons_zero, List.set_cons_succ]
                refine any_runD 14 51 (.bool false) r3 (by kernel_rfl) rfl rfl (by rfl) ?_ (.inr HSS) ?_
                · have za := HSS
                  have za_0 := za.c0; have za_1 := za.c1; have za_2 := za.c2; have za_3 := za.c3; have za_4 := za.c4
                  go_simp
                simp only [Act.put, List.setIfInBounds_toArray, List.set_cons_zero, List.set_cons_succ]
                refine any_runD 15 52 (.bool false) r3 (by kernel_rfl) rfl rfl (by rfl) ?_ (.inr HSS) ?_
                · have za := HSS
                  have za_0 := za.c0; have za_1 := za.c1; have za_2 := za.c2; have za_3 := za.c3; have za_4 := za.c4
                  go_simp
                simp only [Act.put, List.setIfInBounds_toArray, List.set_cons_zero, List.set_cons_succ]
                refine any_runD 16 53 (.agg #[.int .i64 ((c : Int) - 1), .bool B1, .string ⟨#[49]⟩, .slice none 0 0, .slice (some ⟨QN, 0, none⟩) 1 1]) r3 (by kernel_rfl) rfl rfl (by rfl) ?_ (.inr HSS) ?_
                · have za := HSS
                  have za_0 := za.c0; have za_1 := za.c1; have za_2 := za.c2; have za_3 := za.c3; have za_4 := za.c4
                  go_simp
                simp only [Act.put, List.setIfInBounds_toArray, List.set_cons_zero, List.set_cons_succ]
                refine any_callV 17 54 (by kernel_rfl) rfl rfl (by rfl) (fn := 35) (args := #[.agg #[.int .i64 ((c : Int) - 1), .bool B1, .string ⟨#[49]⟩, .slice none 0 0, .slice (some ⟨QN, 0, none⟩) 1 1], .int .i64 2]) ?_ (nested_any (.mk ((c : Int) - 1) B1 ⟨#[49]⟩ [] [⟨#[110]⟩]) _ 2 (by omega) r3 (Vl.up rk3 _ hv0)) ?_
                · go_simp
                rintro e r4 ⟨ua, rfl, hr4, hua⟩
                have rk4 := extV rk3 hr4
                have HSS : Bx r4 R4 (.int .i64 ((c : Int) - 1)) (.bool B1) (.string ⟨#[49]⟩) (.slice none 0 0) (.slice (some ⟨QN, 0, none⟩) 1 1) := HSS.below hr4 HSS.lt
                refine ⟨_, rfl, .inr HSS, ?_⟩
                simp only [Act.put, List.setIfInBounds_toArray, List.set_cons_zero, List.set_cons_succ]
                refine any_callV 18 55 (by kernel_rfl) rfl rfl (by rfl) (fn := 3) (args := #[ua]) ?_ (walk_ValueChecks _ _ r4 hua (sm_nest hsm _) (TB.out r4 (extV BWV rk4))) ?_
                · go_simp
                rintro e r5 ⟨rfl, hr5⟩
                have rk5 := extV rk4 hr5
                have HSS : Bx r5 R4 (.int .i64 ((c : Int) - 1)) (.bool B1) (.string ⟨#[49]⟩) (.slice none 0 0) (.slice (some ⟨QN, 0, none⟩) 1 1) := HSS.below hr5 HSS.lt
                refine ⟨_, rfl, .inr HSS, ?_⟩
                simp only [Act.put, List.setIfInBounds_toArray, List.set_cons_zero, List.set_cons_succ]
                refine any_runD 19 56 (.bool false) r5 (by kernel_rfl) rfl rfl (by rfl) ?_ (.inr HSS) ?_
                · have za := HSS
                  have za_0 := za.c0; have za_1 := za.c1; have za_2 := za.c2; have za_3 := za.c3; have za_4 := za.c4
                  go_simp
                simp only [Act.put, List.setIfInBounds_toArray, List.set_cons_zero, List.set_cons_succ]
                refine any_runD 20 57 (.bool false) r5 (by kernel_rfl) rfl rfl (by rfl) ?_ (.inr HSS) ?_
                · have za := HSS
                  have za_0 := za.c0; have za_1 := za.c1; have za_2 := za.c2; have za_3 := za.c3; have za_4 := za.c4
                  go_simp
                simp only [Act.put, List.setIfInBounds_toArray, List.set_cons_zero, List.set_cons_succ]
                refine any_runD 21 58 (.bool false) r5 (by kernel_rfl) rfl rfl (by rfl) ?_ (.inr HSS) ?_
                · have za := HSS
                  have za_0 := za.c0; have za_1 := za.c1; have za_2 := za.c2; have za_3 := za.c3; have za_4 := za.c4
                  go_simp
                simp only [Act.put, List.setIfInBounds_toArray, List.set_cons_zero, List.set_cons_succ]
                refine any_takeD 22 59 (.agg #[.int .i64 ((c : Int) - 1), .bool B1, .string ⟨#[49]⟩, .slice none 0 0, .slice (some ⟨QN, 0, none⟩) 1 1]) rfl rfl (by kernel_rfl) (by kernel_rfl) (by kernel_rfl) (by kernel_rfl) (fun _ _ _ h => h) (by rfl) ?_ HSS ?_
                · intro w' hS
                  have za := hS
                  have za_0 := za.c0; have za_1 := za.c1; have za_2 := za.c2; have za_3 := za.c3; have za_4 := za.c4
                  go_simp
                simp only [Act.put, List.setIfInBounds_toArray, List.set_cons_zero, List.set_cons_succ]
                refine any_takeD 24 61 (.agg #[.int .i64 ((c : Int) - 1), .bool B1, .string ⟨#[49]⟩, .slice none 0 0, .slice (some ⟨QN, 0, none⟩) 1 1]) rfl rfl (by kernel_rfl) (by kernel_rfl) (by kernel_rfl) (by kernel_rfl) (fun _ _ _ h => h) (by rfl) ?_ HSS ?_
                · intro w' hS
                  have za := hS
                  have za_0 := za.c0; have za_1 := za.c1; have za_2 := za.c2; have za_3 := za.c3; have za_4 := za.c4
                  go_simp
                simp only [Act.put, List.setIfInBounds_toArray, List.set_cons_zero, List.set_cons_succ]
                refine any_callV 23 60 (by kernel_rfl) rfl rfl (by rfl) (fn := 35) (args := #[.agg #[.int .i64 ((c : Int) - 1), .bool B1, .string ⟨#[49]⟩, .slice none 0 0, .slice (some ⟨QN, 0, none⟩) 1 1], .int .i64 1]) ?_ (nested_any (.mk ((c : Int) - 1) B1 ⟨#[49]⟩ [] [⟨#[110]⟩]) _ 1 (by omega) r5 (Vl.up rk5 _ hv0)) ?_
                · go_simp
                rintro e r6 ⟨ub, rfl, hr6, hub⟩
                have rk6 := extV rk5 hr6
                have HSS : Bx r6 R4 (.int .i64 ((c : Int) - 1)) (.bool B1) (.string ⟨#[49]⟩) (.slice none 0 0) (.slice (some ⟨QN, 0, none⟩) 1 1) := HSS.below hr6 HSS.lt
                refine ⟨_, rfl, .inr HSS, ?_⟩
                simp only [Act.put, List.setIfInBounds_toArray, List.set_cons_zero, List.set_cons_succ]
                refine any_callV 25 62 (by kernel_rfl) rfl rfl (by rfl) (fn := 35) (args := #[.agg #[.int .i64 ((c : Int) - 1), .bool B1, .string ⟨#[49]⟩, .slice none 0 0, .slice (some ⟨QN, 0, none⟩) 1 1], .int .i64 2]) ?_ (nested_any (.mk ((c : Int) - 1) B1 ⟨#[49]⟩ [] [⟨#[110]⟩]) _ 2 (by omega) r6 (Vl.up rk6 _ hv0)) ?_
                · go_simp
                rintro e r7 ⟨uc, rfl, hr7, huc⟩
                have rk7 := extV rk6 hr7
                have hub := Vl.up hr7 _ hub
                have HSS : Bx r7 R4 (.int .i64 ((c : Int) - 1)) (.bool B1) (.string ⟨#[49]⟩) (.slice none 0 0) (.slice (some ⟨QN, 0, none⟩) 1 1) := HSS.below hr7 HSS.lt
                refine ⟨_, rfl, .inr HSS, ?_⟩
                simp only [Act.put, List.setIfInBounds_toArray, List.set_cons_zero, List.set_cons_succ]
                refine any_callV 26 63 (by kernel_rfl) rfl rfl (by rfl) (fn := 4) (args := #[ub, uc]) ?_ (walk_ValueEquals _ _ _ _ r7 hub (sm_nest hsm _) huc (sm_nest hsm _) (TB.out r7 (extV BWV rk7))) ?_
                · go_simp
                rintro e r8 ⟨rfl, hr8⟩
                have rk8 := extV rk7 hr8
                have HSS : Bx r8 R4 (.int .i64 ((c : Int) - 1)) (.bool B1) (.string ⟨#[49]⟩) (.slice none 0 0) (.slice (some ⟨QN, 0, none⟩) 1 1) := HSS.below hr8 HSS.lt
                refine ⟨_, rfl, .inr HSS, ?_⟩
                simp only [Act.put, List.setIfInBounds_toArray, List.set_cons_zero, List.set_cons_succ]
                refine any_runD 27 64 (.bool false) r8 (by kernel_rfl) rfl rfl (by rfl) ?_ (.inr HSS) ?_
                · have za := HSS
                  have za_0 := za.c0; have za_1 := za.c1; have za_2 := za.c2; have za_3 := za.c3; have za_4 := za.c4
                  go_simp
                simp only [Act.put, List.setIfInBounds_toArray, List.set_cons_zero, List.set_cons_succ]
                refine any_runD 28 65 (.bool false) r8 (by kernel_rfl) rfl rfl (by rfl) ?_ (.inr HSS) ?_
                · have za := HSS
                  have za_0 := za.c0; have za_1 := za.c1; have za_2 := za.c2; have za_3 := za.c3; have za_4 := za.c4
                  go_simp
                simp only [Act.put, List.setIfInBounds_toArray, List.set_cons_zero, List.set_cons_succ]
                refine any_done (by kernel_rfl) ?_ _
                refine calm_normal ?_
                have LB := Lib.hid (hbx.trans (rk8.mono hbx.size))
                clear HSS px hv0 hsm hbx BWV
                go_wp2_with fail
                exact ⟨⟨b + 1, by go_num, by omega, LB⟩, by simp [intOf]; omega⟩
            | true =>
              have e0 := hx.c0; have f0 := hx.fz 0; have e1 := hx.c1; have f1 := hx.fz 1; have e2 := hx.c2; have f2 := hx.fz 2; have e3 := hx.c3; have f3 := hx.fz 3; have e4 := hx.c4; have f4 := hx.fz 4
              go_upto_region 13 with fail
              have hst : ∀ z, z ≠ R4 → (W8s.setCell ⟨R4, 3, none⟩ (.slice (some ⟨QS, 0, none⟩) 1 1)).heap[z]? = W8s.heap[z]? := fun z hz => Below.heap_setCell _ _ _ _ hz
              have hy := hx.set3 (.slice (some ⟨QS, 0, none⟩) 1 1)
              have hby := (hbx).setCell (p := ⟨R4, 3, none⟩) hRw (.slice (some ⟨QS, 0, none⟩) 1 1)
              clear e0 f0 e1 f1 e2 f2 e3 f3 e4 f4
              clear hst hx hbx
              obtain ⟨W8ss, hW'⟩ : ∃ W, W8s.setCell ⟨R4, 3, none⟩ (.slice (some ⟨QS, 0, none⟩) 1 1) = W := ⟨_, rfl⟩
              rw [hW'] at hy hby ⊢
              clear hW'
              have hx := hy
              have hbx := hby
              clear hy hby
              cases h8 : (bits .and .i64 (b : Int) 8 == 8) with
              | false =>
                have hv0 : Vl W8ss (.agg #[.int .i64 ((c : Int) - 1), .bool B1, .string ⟨#[49]⟩, .slice (some ⟨QS, 0, none⟩) 1 1, .slice none 0 0]) (.mk ((c : Int) - 1) B1 ⟨#[49]⟩ [.mk 2 false ⟨#[49]⟩ [] []] []) := Vl.shut (t := (.mk ((c : Int) - 1) B1 ⟨#[49]⟩ [.mk 2 false ⟨#[49]⟩ [] []] [])) (HVL.out.below hbx) (Nm.none_ W8ss) (show (-9223372036854775808 : Int) ≤ (c : Int) - 1 ∧ (c : Int) - 1 ≤ 9223372036854775807 by omega) (show ByteArray.size ⟨#[49]⟩ ≤ 140737488351232 by decide)
                have hsm : Sm (.mk ((c : Int) - 1) B1 ⟨#[49]⟩ [.mk 2 false ⟨#[49]⟩ [] []] []) := Sm.mk (fun x hx => by cases hx) (fun x hx => by simp at hx; subst hx; exact SM1.out)
                have BWV : Below w.heap.size w W8ss := B2.out.trans (hbx.mono B2.out.size)
                have px := hx
                clear hx
                go_upto_region 15 with fail
                have hsz1 : (⟨#[110]⟩ : ByteArray).size ≤ 140737488351232 := by decide
                have HSS : Bx W8ss.drew R4 (.int .i64 ((c : Int) - 1)) (.bool B1) (.string ⟨#[49]⟩) (.slice (some ⟨QS, 0, none⟩) 1 1) (.slice none 0 0) := Bx.same px rfl
                refine region_calm (fun w' => Bx w' R4 (.int .i64 ((c : Int) - 1)) (.bool B1) (.string ⟨#[49]⟩) (.slice (some ⟨QS, 0, none⟩) 1 1) (.slice none 0 0)) [4, 22, 24] (by kernel_rfl) ?_
                have rk0 : Below W8ss.heap.size W8ss W8ss.drew := ⟨rfl, rfl, rfl, Nat.le_refl _, fun _ _ => rfl⟩
                refine any_runD 0 37 (.agg #[.int .i64 ((c : Int) - 1), .bool B1, .string ⟨#[49]⟩, .slice (some ⟨QS, 0, none⟩) 1 1, .slice none 0 0]) W8ss.drew (by kernel_rfl) rfl rfl (by rfl) ?_ (.inr HSS) ?_
                · have za := HSS
                  have za_0 := za.c0; have za_1 := za.c1; have za_2 := za.c2; have za_3 := za.c3; have za_4 := za.c4
                  go_simp
                simp only [Act.put, List.setIfInBounds_toArray, List.set_cons_zero, List.set_cons_succ]
                refine any_callV 1 38 (by kernel_rfl) rfl rfl (by rfl) (fn := 3) (args := #[.agg #[.int .i64 ((c : Int) - 1), .bool B1, .string ⟨#[49]⟩, .slice (some ⟨QS, 0, none⟩) 1 1, .slice none 0 0]]) ?_ (walk_ValueChecks _ (.mk ((c : Int) - 1) B1 ⟨#[49]⟩ [.mk 2 false ⟨#[49]⟩ [] []] []) W8ss.drew (Vl.up rk0 _ hv0) hsm (TB.out W8ss.drew (extV BWV rk0))) ?_
                · go_simp
                rintro e r1 ⟨rfl, hr1⟩
                have rk1 := extV rk0 hr1
                have HSS : Bx r1 R4 (.int .i64 ((c : Int) - 1)) (.bool B1) (.string ⟨#[49]⟩) (.slice (some ⟨QS, 0, none⟩) 1 1) (.slice none 0 0) := HSS.below hr1 HSS.lt
                refine ⟨_, rfl, .inr HSS, ?_⟩
                simp only [Act.put, List.setIfInBounds_toArray, List.set_cons_zero, List.set_cons_succ]
                refine any_runD 2 39 (.bool false) r1 (by kernel_rfl) rfl rfl (by rfl) ?_ (.inr HSS) ?_
                · have za := HSS
                  have za_0 := za.c0; have za_1 := za.c1; have za_2 := za.c2; have za_3 := za.c3; have za_4 := za.c4
                  go_simp
                simp only [Act.put, List.setIfInBounds_toArray, List.set_cons_zero, List.set_cons_succ]
                refine any_runD 3 40 (.bool false) r1 (by kernel_rfl) rfl rfl (by rfl) ?_ (.inr HSS) ?_
                · have za := HSS
                  have za_0 := za.c0; have za_1 := za.c1; have za_2 := za.c2; have za_3 := za.c3; have za_4 := za.c4
                  go_simp
                simp only [Act.put, List.setIfInBounds_toArray, List.set_cons_zero, List.set_cons_succ]
                refine any_takeD 4 41 (.agg #[.int .i64 ((c : Int) - 1), .bool B1, .string ⟨#[49]⟩, .slice (some ⟨QS, 0, none⟩) 1 1, .slice none 0 0]) rfl rfl (by kernel_rfl) (by kernel_rfl) (by kernel_rfl) (by kernel_rfl) (fun _ _ _ h => h) (by rfl) ?_ HSS ?_
                · intro w' hS
                  have za := hS
                  have za_0 := za.c0; have za_1 := za.c1; have za_2 := za.c2; have za_3 := za.c3; have za_4 := za.c4
                  go_simp
                simp only [Act.put, List.setIfInBounds_toArray, List.set_cons_zero, List.set_cons_succ]
                refine any_runD 5 42 (.int .i64 ((c : Int) - 1)) r1 (by kernel_rfl) rfl rfl (by rfl) ?_ (.inr HSS) ?_
                · have za := HSS
                  have za_0 := za.c0; have za_1 := za.c1; have za_2 := za.c2; have za_3 := za.c3; have za_4 := za.c4
                  go_simp
                simp only [Act.put, List.setIfInBounds_toArray, List.set_cons_zero, List.set_cons_succ]
                refine any_runD 6 43 (.agg #[.int .i64 ((c : Int) - 1), .bool false, .string ⟨#[]⟩, .slice none 0 0, .slice none 0 0]) r1 (by kernel_rfl) rfl rfl (by rfl) ?_ (.inr HSS) ?_
                · have za := HSS
                  have za_0 := za.c0; have za_1 := za.c1; have za_2 := za.c2; have za_3 := za.c3; have za_4 := za.c4
                  go_simp
                simp only [Act.put, List.setIfInBounds_toArray, List.set_cons_zero, List.set_cons_succ]
                refine any_callV 7 44 (by kernel_rfl) rfl rfl (by rfl) (fn := 4) (args := #[.agg #[.int .i64 ((c : Int) - 1), .bool B1, .string ⟨#[49]⟩, .slice (some ⟨QS, 0, none⟩) 1 1, .slice none 0 0], .agg #[.int .i64 ((c : Int) - 1), .bool false, .string ⟨#[]⟩, .slice none 0 0, .slice none 0 0]]) ?_ (walk_ValueEquals _ (.mk ((c : Int) - 1) B1 ⟨#[49]⟩ [.mk 2 false ⟨#[49]⟩ [] []] []) _ (.mk ((c : Int) - 1) false ⟨#[]⟩ [] []) r1 (Vl.up rk1 _ hv0) hsm (vl_plain r1 false (s := ⟨#[]⟩) ⟨by omega, by omega⟩ (by decide)) (sm_plain _ _ _) (TB.out r1 (extV BWV rk1))) ?_
                · go_simp
                rintro e r2 ⟨rfl, hr2⟩
                have rk2 := extV rk1 hr2
                have HSS : Bx r2 R4 (.int .i64 ((c : Int) - 1)) (.bool B1) (.string ⟨#[49]⟩) (.slice (some ⟨QS, 0, none⟩) 1 1) (.slice none 0 0) := HSS.below hr2 HSS.lt
                refine ⟨_, rfl, .inr HSS, ?_⟩
                simp only [Act.put, List.setIfInBounds_toArray, List.set_cons_zero, List.set_cons_succ]
                refine any_runD 8 45 (.bool false) r2 (by kernel_rfl) rfl rfl (by rfl) ?_ (.inr HSS) ?_
                · have za := HSS
                  have za_0 := za.c0; have za_1 := za.c1; have za_2 := za.c2; have za_3 := za.c3; have za_4 := za.c4
                  go_simp
                simp only [Act.put, List.setIfInBounds_toArray, List.set_cons_zero, List.set_cons_succ]
                refine any_runD 9 46 (.bool false) r2 (by kernel_rfl) rfl rfl (by rfl) ?_ (.inr HSS) ?_
                · have za := HSS
                  have za_0 := za.c0; have za_1 := za.c1; have za_2 := za.c2; have za_3 := za.c3; have za_4 := za.c4
                  go_simp
                simp only [Act.put, List.setIfInBounds_toArray, List.set_cons_zero, List.set_cons_succ]
                refine any_runD 10 47 (.bool false) r2 (by kernel_rfl) rfl rfl (by rfl) ?_ (.inr HSS) ?_
                · have za := HSS
                  have za_0 := za.c0; have za_1 := za.c1; have za_2 := za.c2; have za_3 := za.c3; have za_4 := za.c4
                  go_simp
                simp only [Act.put, List.setIfInBounds_toArray, List.set_cons_zero, List.set_cons_succ]
                refine any_runD 11 48 (.agg #[.int .i64 ((c : Int) - 1), .bool B1, .string ⟨#[49]⟩, .slice (some ⟨QS, 0, none⟩) 1 1, .slice none 0 0]) r2 (by kernel_rfl) rfl rfl (by rfl) ?_ (.inr HSS) ?_
                · have za := HSS
                  have za_0 := za.c0; have za_1 := za.c1; have za_2 := za.c2; have za_3 := za.c3; have za_4 := za.c4
                  go_simp
                simp only [Act.put, List.setIfInBounds_toArray, List.set_cons_zero, List.set_cons_succ]
                refine any_callV 12 49 (by kernel_rfl) rfl rfl (by rfl) (fn := 5) (args := #[.agg #[.int .i64 ((c : Int) - 1), .bool B1, .string ⟨#[49]⟩, .slice (some ⟨QS, 0, none⟩) 1 1, .slice none 0 0], .string ⟨#[110]⟩]) ?_ (walk_ValueGets _ (.mk ((c : Int) - 1) B1 ⟨#[49]⟩ [.mk 2 false ⟨#[49]⟩ [] []] []) ⟨#[110]⟩ r2 (Vl.up rk2 _ hv0) hsm (by decide) (by decide) (TB.out r2 (extV BWV rk2))) ?_
                · go_simp
                rintro e r3 ⟨rfl, hr3⟩
                have rk3 := extV rk2 hr3
                have HSS : Bx r3 R4 (.int .i64 ((c : Int) - 1)) (.bool B1) (.string ⟨#[49]⟩) (.slice (some ⟨QS, 0, none⟩) 1 1) (.slice none 0 0) := HSS.below hr3 HSS.lt
                refine ⟨_, rfl, .inr HSS, ?_⟩
                simp only [Act.put, List.setIfInBounds_toArray, List.set_cons_zero, List.set_cons_succ]
                refine any_runD 13 50 (.bool false) r3 (by kernel_rfl) rfl rfl (by rfl) ?_ (.inr HSS) ?_
                · have za := HSS
                  have za_0 := za.c0; have za_1 := za.c1; have za_2 := za.c2; have za_3 := za.c3; have za_4 := za.c4
                  go_simp
                simp only [Act.put, List.setIfInBounds_toArray, List.set_cons_zero, List.set_cons_succ]
                refine any_runD 14 51 (.bool false) r3 (by kernel_rfl) rfl rfl (by rfl) ?_ (.inr HSS) ?_
                · have za := HSS
                  have za_0 := za.c0; have za_1 := za.c1; have za_2 := za.c2; have za_3 := za.c3; have za_4 := za.c4
                  go_simp
                simp only [Act.put, List.setIfInBounds_toArray, List.set_cons_zero, List.set_cons_succ]
                refine any_runD 15 52 (.bool false) r3 (by kernel_rfl) rfl rfl (by rfl) ?_ (.inr HSS) ?_
                · have za := HSS
                  have za_0 := za.c0; have za_1 := za.c1; have za_2 := za.c2; have za_3 := za.c3; have za_4 := za.c4
                  go_simp
                simp only [Act.put, List.setIfInBounds_toArray, List.set_cons_zero, List.set_cons_succ]
                refine any_runD 16 53 (.agg #[.int .i64 ((c : Int) - 1), .bool B1, .string ⟨#[49]⟩, .slice (some ⟨QS, 0, none⟩) 1 1, .slice none 0 0]) r3 (by kernel_rfl) rfl rfl (by rfl) ?_ (.inr HSS) ?_
                · have za := HSS
                  have za_0 := za.c0; have za_1 := za.c1; have za_2 := za.c2; have za_3 := za.c3; have za_4 := za.c4
                  go_simp
                simp only [Act.put, List.setIfInBounds_toArray, List.set_cons_zero, List.set_cons_succ]
                refine any_callV 17 54 (by kernel_rfl) rfl rfl (by rfl) (fn := 35) (args := #[.agg #[.int .i64 ((c : Int) - 1), .bool B1, .string ⟨#[49]⟩, .slice (some ⟨QS, 0, none⟩) 1 1, .slice none 0 0], .int .i64 2]) ?_ (nested_any (.mk ((c : Int) - 1) B1 ⟨#[49]⟩ [.mk 2 false ⟨#[49]⟩ [] []] []) _ 2 (by omega) r3 (Vl.up rk3 _ hv0)) ?_
                · go_simp
                rintro e r4 ⟨ua, rfl, hr4, hua⟩
                have rk4 := extV rk3 hr4
                have HSS : Bx r4 R4 (.int .i64 ((c : Int) - 1)) (.bool B1) (.string ⟨#[49]⟩) (.slice (some ⟨QS, 0, none⟩) 1 1) (.slice none 0 0) := HSS.below hr4 HSS.lt
                refine ⟨_, rfl, .inr HSS, ?_⟩
                simp only [Act.put, List.setIfInBounds_toArray, List.set_cons_zero, List.set_cons_succ]
                refine any_callV 18 55 (by kernel_rfl) rfl rfl (by rfl) (fn := 3) (args := #[ua]) ?_ (walk_ValueChecks _ _ r4 hua (sm_nest hsm _) (TB.out r4 (extV BWV rk4))) ?_
                · go_simp
                rintro e r5 ⟨rfl, hr5⟩
                have rk5 := extV rk4 hr5
                have HSS : Bx r5 R4 (.int .i64 ((c : Int) - 1)) (.bool B1) (.string ⟨#[49]⟩) (.slice (some ⟨QS, 0, none⟩) 1 1) (.slice none 0 0) := HSS.below hr5 HSS.lt
                refine ⟨_, rfl, .inr HSS, ?_⟩
                simp only [Act.put, List.setIfInBounds_toArray, List.set_cons_zero, List.set_cons_succ]
                refine any_runD 19 56 (.bool false) r5 (by kernel_rfl) rfl rfl (by rfl) ?_ (.inr HSS) ?_
                · have za := HSS
                  have za_0 := za.c0; have za_1 := za.c1; have za_2 := za.c2; have za_3 := za.c3; have za_4 := za.c4
                  go_simp
                simp only [Act.put, List.setIfInBounds_toArray, List.set_cons_zero, List.set_cons_succ]
                refine any_runD 20 57 (.bool false) r5 (by kernel_rfl) rfl rfl (by rfl) ?_ (.inr HSS) ?_
                · have za := HSS
                  have za_0 := za.c0; have za_1 := za.c1; have za_2 := za.c2; have za_3 := za.c3; have za_4 := za.c4
                  go_simp
                simp only [Act.put, List.setIfInBounds_toArray, List.set_cons_zero, List.set_cons_succ]
                refine any_runD 21 58 (.bool false) r5 (by kernel_rfl) rfl rfl (by rfl) ?_ (.inr HSS) ?_
                · have za := HSS
                  have za_0 := za.c0; have za_1 := za.c1; have za_2 := za.c2; have za_3 := za.c3; have za_4 := za.c4
                  go_simp
                simp only [Act.put, List.setIfInBounds_toArray, List.set_cons_zero, List.set_cons_succ]
                refine any_takeD 22 59 (.agg #[.int .i64 ((c : Int) - 1), .bool B1, .string ⟨#[49]⟩, .slice (some ⟨QS, 0, none⟩) 1 1, .slice none 0 0]) rfl rfl (by kernel_rfl) (by kernel_rfl) (by kernel_rfl) (by kernel_rfl) (fun _ _ _ h => h) (by rfl) ?_ HSS ?_
                · intro w' hS
                  have za := hS
                  have za_0 := za.c0; have za_1 := za.c1; have za_2 := za.c2; have za_3 := za.c3; have za_4 := za.c4
                  go_simp
                simp only [Act.put, List.setIfInBounds_toArray, List.set_cons_zero, List.set_cons_succ]
                refine any_takeD 24 61 (.agg #[.int .i64 ((c : Int) - 1), .bool B1, .string ⟨#[49]⟩, .slice (some ⟨QS, 0, none⟩) 1 1, .slice none 0 0]) rfl rfl (by kernel_rfl) (by kernel_rfl) (by kernel_rfl) (by kernel_rfl) (fun _ _ _ h => h) (by rfl) ?_ HSS ?_
                · intro w' hS
                  have za := hS
                  have za_0 := za.c0; have za_1 := za.c1; have za_2 := za.c2; have za_3 := za.c3; have za_4 := za.c4
                  go_simp
                simp only [Act.put, List.setIfInBounds_toArray, List.set_cons_zero, List.set_cons_succ]
                refine any_callV 23 60 (by kernel_rfl) rfl rfl (by rfl) (fn := 35) (args := #[.agg #[.int .i64 ((c : Int) - 1), .bool B1, .string ⟨#[49]⟩, .slice (some ⟨QS, 0, none⟩) 1 1, .slice none 0 0], .int .i64 1]) ?_ (nested_any (.mk ((c : Int) - 1) B1 ⟨#[49]⟩ [.mk 2 false ⟨#[49]⟩ [] []] []) _ 1 (by omega) r5 (Vl.up rk5 _ hv0)) ?_
                · go_simp
                rintro e r6 ⟨ub, rfl, hr6, hub⟩
                have rk6 := extV rk5 hr6
                have HSS : Bx r6 R4 (.int .i64 ((c : Int) - 1)) (.bool B1) (.string ⟨#[49]⟩) (.slice (some ⟨QS, 0, none⟩) 1 1) (.slice none 0 0) := HSS.below hr6 HSS.lt
                refine ⟨_, rfl, .inr HSS, ?_⟩
                simp only [Act.put, List.setIfInBounds_toArray, List.set_cons_zero, List.set_cons_succ]
                refine any_callV 25 62 (by kernel_rfl) rfl rfl (by rfl) (fn := 35) (args := #[.agg #[.int .i64 ((c : Int) - 1), .bool B1, .string ⟨#[49]⟩, .slice (some ⟨QS, 0, none⟩) 1 1, .slice none 0 0], .int .i64 2]) ?_ (nested_any (.mk ((c : Int) - 1) B1 ⟨#[49]⟩ [.mk 2 false ⟨#[49]⟩ [] []] []) _ 2 (by omega) r6 (Vl.up rk6 _ hv0)) ?_
                · go_simp
                rintro e r7 ⟨uc, rfl, hr7, huc⟩
                have rk7 := extV rk6 hr7
                have hub := Vl.up hr7 _ hub
                have HSS : Bx r7 R4 (.int .i64 ((c : Int) - 1)) (.bool B1) (.string ⟨#[49]⟩) (.slice (some ⟨QS, 0, none⟩) 1 1) (.slice none 0 0) := HSS.below hr7 HSS.lt
                refine ⟨_, rfl, .inr HSS, ?_⟩
                simp only [Act.put, List.setIfInBounds_toArray, List.set_cons_zero, List.set_cons_succ]
                refine any_callV 26 63 (by kernel_rfl) rfl rfl (by rfl) (fn := 4) (args := #[ub, uc]) ?_ (walk_ValueEquals _ _ _ _ r7 hub (sm_nest hsm _) huc (sm_nest hsm _) (TB.out r7 (extV BWV rk7))) ?_
                · go_simp
                rintro e r8 ⟨rfl, hr8⟩
                have rk8 := extV rk7 hr8
                have HSS : Bx r8 R4 (.int .i64 ((c : Int) - 1)) (.bool B1) (.string ⟨#[49]⟩) (.slice (some ⟨QS, 0, none⟩) 1 1) (.slice none 0 0) := HSS.below hr8 HSS.lt
                refine ⟨_, rfl, .inr HSS, ?_⟩
                simp only [Act.put, List.setIfInBounds_toArray, List.set_cons_zero, List.set_cons_succ]
                refine any_runD 27 64 (.bool false) r8 (by kernel_rfl) rfl rfl (by rfl) ?_ (.inr HSS) ?_
                · have za := HSS
                  have za_0 := za.c0; have za_1 := za.c1; have za_2 := za.c2; have za_3 := za.c3; have za_4 := za.c4
                  go_simp
                simp only [Act.put, List.setIfInBounds_toArray, List.set_cons_zero, List.set_cons_succ]
                refine any_runD 28 65 (.bool false) r8 (by kernel_rfl) rfl rfl (by rfl) ?_ (.inr HSS) ?_
                · have za := HSS
                  have za_0 := za.c0; have za_1 := za.c1; have za_2 := za.c2; have za_3 := za.c3; have za_4 := za.c4
                  go_simp
                simp only [Act.put, List.setIfInBounds_toArray, List.set_cons_zero, List.set_cons_succ]
                refine any_done (by kernel_rfl) ?_ _
                refine calm_normal ?_
                have LB := Lib.hid (hbx.trans (rk8.mono hbx.size))
                clear HSS px hv0 hsm hbx BWV
                go_wp2_with fail
                exact ⟨⟨b + 1, by go_num, by omega, LB⟩, by simp [intOf]; omega⟩
              | true =>
                obtain ⟨QN, hQN⟩ : ∃ Q, W8ss.heap.size = Q := ⟨_, rfl⟩
                obtain ⟨W8ssn, hWn⟩ : ∃ W, W8ss.alloc (.cells #[.string ⟨#[110]⟩] 9) = W := ⟨_, rfl⟩
                have hbn : Below W8ss.heap.size W8ss W8ssn := by rw [← hWn]; exact below_allocV W8ss _
                have hnm0 : Nm W8ssn (some ⟨QN, 0, none⟩) 1 1 [⟨#[110]⟩] := Nm.one_at (by rw [← hWn, ← hQN]; exact heap_alloc_new W8ss _)
                have hRQ : R4 < QN := by have := hx.lt; omega
                have hx := hx.below hbn hx.lt
                have e0 := hx.c0; have f0 := hx.fz 0; have e1 := hx.c1; have f1 := hx.fz 1; have e2 := hx.c2; have f2 := hx.fz 2; have e3 := hx.c3; have f3 := hx.fz 3; have e4 := hx.c4; have f4 := hx.fz 4
                go_upto_region 15 with fail
                have hst : ∀ z, z ≠ R4 → (W8ssn.setCell ⟨R4, 4, none⟩ (.slice (some ⟨QN, 0, none⟩) 1 1)).heap[z]? = W8ssn.heap[z]? := fun z hz => Below.heap_setCell _ _ _ _ hz
                have hy := hx.set4 (.slice (some ⟨QN, 0, none⟩) 1 1)
                have hby := (hbx.trans (hbn.mono hbx.size)).setCell (p := ⟨R4, 4, none⟩) hRw (.slice (some ⟨QN, 0, none⟩) 1 1)
                have hnm := hnm0.same (w' := W8ssn.setCell ⟨R4, 4, none⟩ (.slice (some ⟨QN, 0, none⟩) 1 1)) (fun g off e _ => by injection e with e; injection e with e1 e2; subst e1; exact hst _ (by omega))
                clear e0 f0 e1 f1 e2 f2 e3 f3 e4 f4
                clear hst hx hbx hbn hnm0 hWn hQN
                obtain ⟨W8sss, hW'⟩ : ∃ W, W8ssn.setCell ⟨R4, 4, none⟩ (.slice (some ⟨QN, 0, none⟩) 1 1) = W := ⟨_, rfl⟩
                rw [hW'] at hy hby hnm ⊢
                clear hW'
                have hx := hy
                have hbx := hby
                clear hy hby
                have hv0 : Vl W8sss (.agg #[.int .i64 ((c : Int) - 1), .bool B1, .string ⟨#[49]⟩, .slice (some ⟨QS, 0, none⟩) 1 1, .slice (some ⟨QN, 0, none⟩) 1 1]) (.mk ((c : Int) - 1) B1 ⟨#[49]⟩ [.mk 2 false ⟨#[49]⟩ [] []] [⟨#[110]⟩]) := Vl.shut (t := (.mk ((c : Int) - 1) B1 ⟨#[49]⟩ [.mk 2 false ⟨#[49]⟩ [] []] [⟨#[110]⟩])) (HVL.out.below hbx) (hnm) (show (-9223372036854775808 : Int) ≤ (c : Int) - 1 ∧ (c : Int) - 1 ≤ 9223372036854775807 by omega) (show ByteArray.size ⟨#[49]⟩ ≤ 140737488351232 by decide)
                have hsm : Sm (.mk ((c : Int) - 1) B1 ⟨#[49]⟩ [.mk 2 false ⟨#[49]⟩ [] []] [⟨#[110]⟩]) := Sm.mk (fun x hx => by simp at hx; subst hx; decide) (fun x hx => by simp at hx; subst hx; exact SM1.out)
                have BWV : Below w.heap.size w W8sss := B2.out.trans (hbx.mono B2.out.size)
                have px := hx
                clear hx
                go_upto_region 15 with fail
                have hsz1 : (⟨#[110]⟩ : ByteArray).size ≤ 140737488351232 := by decide
                have HSS : Bx W8sss.drew R4 (.int .i64 ((c : Int) - 1)) (.bool B1) (.string ⟨#[49]⟩) (.slice (some ⟨QS, 0, none⟩) 1 1) (.slice (some ⟨QN, 0, none⟩) 1 1) := Bx.same px rfl
                refine region_calm (fun w' => Bx w' R4 (.int .i64 ((c : Int) - 1)) (.bool B1) (.string ⟨#[49]⟩) (.slice (some ⟨QS, 0, none⟩) 1 1) (.slice (some ⟨QN, 0, none⟩) 1 1)) [4, 22, 24] (by kernel_rfl) ?_
                have rk0 : Below W8sss.heap.size W8sss W8sss.drew := ⟨rfl, rfl, rfl, Nat.le_refl _, fun _ _ => rfl⟩
                refine any_runD 0 37 (.agg #[.int .i64 ((c : Int) - 1), .bool B1, .string ⟨#[49]⟩, .slice (some ⟨QS, 0, none⟩) 1 1, .slice (some ⟨QN, 0, none⟩) 1 1]) W8sss.drew (by kernel_rfl) rfl rfl (by rfl) ?_ (.inr HSS) ?_
                · have za := HSS
                  have za_0 := za.c0; have za_1 := za.c1; have za_2 := za.c2; have za_3 := za.c3; have za_4 := za.c4
                  go_simp
                simp only [Act.put, List.setIfInBounds_toArray, List.set_cons_zero, List.set_cons_succ]
                refine any_callV 1 38 (by kernel_rfl) rfl rfl (by rfl) (fn := 3) (args := #[.agg #[.int .i64 ((c : Int) - 1), .bool B1, .string ⟨#[49]⟩, .slice (some ⟨QS, 0, none⟩) 1 1, .slice (some ⟨QN, 0, none⟩) 1 1]]) ?_ (walk_ValueChecks _ (.mk ((c : Int) - 1) B1 ⟨#[49]⟩ [.mk 2 false ⟨#[49]⟩ [] []] [⟨#[110]⟩]) W8sss.drew (Vl.up rk0 _ hv0) hsm (TB.out W8sss.drew (extV BWV rk0))) ?_
                · go_simp
                rintro e r1 ⟨rfl, hr1⟩
                have rk1 := extV rk0 hr1
                have HSS : Bx r1 R4 (.int .i64 ((c : Int) - 1)) (.bool B1) (.string ⟨#[49]⟩) (.slice (some ⟨QS, 0, none⟩) 1 1) (.slice (some ⟨QN, 0, none⟩) 1 1) := HSS.below hr1 HSS.lt
                refine ⟨_, rfl, .inr HSS, ?_⟩
                simp only [Act.put, List.setIfInBounds_toArray, List.set_cons_zero, List.set_cons_succ]
                refine any_runD 2 39 (.bool false) r1 (by kernel_rfl) rfl rfl (by rfl) ?_ (.inr HSS) ?_
                · have za := HSS
                  have za_0 := za.c0; have za_1 := za.c1; have za_2 := za.c2; have za_3 := za.c3; have za_4 := za.c4
                  go_simp
                simp only [Act.put, List.setIfInBounds_toArray, List.set_cons_zero, List.set_cons_succ]
                refine any_runD 3 40 (.bool false) r1 (by kernel_rfl) rfl rfl (by rfl) ?_ (.inr HSS) ?_
                · have za := HSS
                  have za_0 := za.c0; have za_1 := za.c1; have za_2 := za.c2; have za_3 := za.c3; have za_4 := za.c4
                  go_simp
                simp only [Act.put, List.setIfInBounds_toArray, List.set_cons_zero, List.set_cons_succ]
                refine any_takeD 4 41 (.agg #[.int .i64 ((c : Int) - 1), .bool B1, .string ⟨#[49]⟩, .slice (some ⟨QS, 0, none⟩) 1 1, .slice (some ⟨QN, 0, none⟩) 1 1]) rfl rfl (by kernel_rfl) (by kernel_rfl) (by kernel_rfl) (by kernel_rfl) (fun _ _ _ h => h) (by rfl) ?_ HSS ?_
                · intro w' hS
                  have za := hS
                  have za_0 := za.c0; have za_1 := za.c1; have za_2 := za.c2; have za_3 := za.c3; have za_4 := za.c4
                  go_simp
                simp only [Act.put, List.setIfInBounds_toArray, List.set_cons_zero, List.set_cons_succ]
                refine any_runD 5 42 (.int .i64 ((c : Int) - 1)) r1 (by kernel_rfl) rfl rfl (by rfl) ?_ (.inr HSS) ?_
                · have za := HSS
                  have za_0 := za.c0; have za_1 := za.c1; have za_2 := za.c2; have za_3 := za.c3; have za_4 := za.c4
                  go_simp
                simp only [Act.put, List.setIfInBounds_toArray, List.set_cons_zero, List.set_cons_succ]
                refine any_runD 6 43 (.agg #[.int .i64 ((c : Int) - 1), .bool false, .string ⟨#[]⟩, .slice none 0 0, .slice none 0 0]) r1 (by kernel_rfl) rfl rfl (by rfl) ?_ (.inr HSS) ?_
                · have za := HSS
                  have za_0 := za.c0; have za_1 := za.c1; have za_2 := za.c2; have za_3 := za.c3; have za_4 := za.c4
                  go_simp
                simp only [Act.put, List.setIfInBounds_toArray, List.set_cons_zero, List.set_cons_succ]
                refine any_callV 7 44 (by kernel_rfl) rfl rfl (by rfl) (fn := 4) (args := #[.agg #[.int .i64 ((c : Int) - 1), .bool B1, .string ⟨#[49]⟩, .slice (some ⟨QS, 0, none⟩) 1 1, .slice (some ⟨QN, 0, none⟩) 1 1], .agg #[.int .i64 ((c : Int) - 1), .bool false, .string ⟨#[]⟩, .slice none 0 0, .slice none 0 0]]) ?_ (walk_ValueEquals _ (.mk ((c : Int) - 1) B1 ⟨#[49]⟩ [.mk 2 false ⟨#[49]⟩ [] []] [⟨#[110]⟩]) _ (.mk ((c : Int) - 1) false ⟨#[]⟩ [] []) r1 (Vl.up rk1 _ hv0) hsm (vl_plain r1 false (s := ⟨#[]⟩) ⟨by omega, by omega⟩ (by decide)) (sm_plain _ _ _) (TB.out r1 (extV BWV rk1))) ?_
                · go_simp
                rintro e r2 ⟨rfl, hr2⟩
                have rk2 := extV rk1 hr2
                have HSS : Bx r2 R4 (.int .i64 ((c : Int) - 1)) (.bool B1) (.string ⟨#[49]⟩) (.slice (some ⟨QS, 0, none⟩) 1 1) (.slice (some ⟨QN, 0, none⟩) 1 1) := HSS.below hr2 HSS.lt
                refine ⟨_, rfl, .inr HSS, ?_⟩
                simp only [Act.put, List.setIfInBounds_toArray, List.set_cons_zero, List.set_cons_succ]
                refine any_runD 8 45 (.bool false) r2 (by kernel_rfl) rfl rfl (by rfl) ?_ (.inr HSS) ?_
                · have za := HSS
                  have za_0 := za.c0; have za_1 := za.c1; have za_2 := za.c2; have za_3 := za.c3; have za_4 := za.c4
                  go_simp
                simp only [Act.put, List.setIfInBounds_toArray, List.set_cons_zero, List.set_cons_succ]
                refine any_runD 9 46 (.bool false) r2 (by kernel_rfl) rfl rfl (by rfl) ?_ (.inr HSS) ?_
                · have za := HSS
                  have za_0 := za.c0; have za_1 := za.c1; have za_2 := za.c2; have za_3 := za.c3; have za_4 := za.c4
                  go_simp
                simp only [Act.put, List.setIfInBounds_toArray, List.set_cons_zero, List.set_cons_succ]
                refine any_runD 10 47 (.bool false) r2 (by kernel_rfl) rfl rfl (by rfl) ?_ (.inr HSS) ?_
                · have za := HSS
                  have za_0 := za.c0; have za_1 := za.c1; have za_2 := za.c2; have za_3 := za.c3; have za_4 := za.c4
                  go_simp
                simp only [Act.put, List.setIfInBounds_toArray, List.set_cons_zero, List.set_cons_succ]
                refine any_runD 11 48 (.agg #[.int .i64 ((c : Int) - 1), .bool B1, .string ⟨#[49]⟩, .slice (some ⟨QS, 0, none⟩) 1 1, .slice (some ⟨QN, 0, none⟩) 1 1]) r2 (by kernel_rfl) rfl rfl (by rfl) ?_ (.inr HSS) ?_
                · have za := HSS
                  have za_0 := za.c0; have za_1 := za.c1; have za_2 := za.c2; have za_3 := za.c3; have za_4 := za.c4
                  go_simp
                simp only [Act.put, List.setIfInBounds_toArray, List.set_cons_zero, List.set_cons_succ]
                refine any_callV 12 49 (by kernel_rfl) rfl rfl (by rfl) (fn := 5) (args := #[.agg #[.int .i64 ((c : Int) - 1), .bool B1, .string ⟨#[49]⟩, .slice (some ⟨QS, 0, none⟩) 1 1, .slice (some ⟨QN, 0, none⟩) 1 1], .string ⟨#[110]⟩]) ?_ (walk_ValueGets _ (.mk ((c : Int) - 1) B1 ⟨#[49]⟩ [.mk 2 false ⟨#[49]⟩ [] []] [⟨#[110]⟩]) ⟨#[110]⟩ r2 (Vl.up rk2 _ hv0) hsm (by decide) (by decide) (TB.out r2 (extV BWV rk2))) ?_
                · go_simp
                rintro e r3 ⟨rfl, hr3⟩
                have rk3 := extV rk2 hr3
                have HSS : Bx r3 R4 (.int .i64 ((c : Int) - 1)) (.bool B1) (.string ⟨#[49]⟩) (.slice (some ⟨QS, 0, none⟩) 1 1) (.slice (some ⟨QN, 0, none⟩) 1 1) := HSS.below hr3 HSS.lt
                refine ⟨_, rfl, .inr HSS, ?_⟩
                simp only [Act.put, List.setIfInBounds_toArray, List.set_cons_zero, List.set_cons_succ]
                refine any_runD 13 50 (.bool false) r3 (by kernel_rfl) rfl rfl (by rfl) ?_ (.inr HSS) ?_
                · have za := HSS
                  have za_0 := za.c0; have za_1 := za.c1; have za_2 := za.c2; have za_3 := za.c3; have za_4 := za.c4
                  go_simp
                simp only [Act.put, List.setIfInBounds_toArray, List.set_cons_zero, List.set_cons_succ]
                refine any_runD 14 51 (.bool false) r3 (by kernel_rfl) rfl rfl (by rfl) ?_ (.inr HSS) ?_
                · have za := HSS
                  have za_0 := za.c0; have za_1 := za.c1; have za_2 := za.c2; have za_3 := za.c3; have za_4 := za.c4
                  go_simp
                simp only [Act.put, List.setIfInBounds_toArray, List.set_cons_zero, List.set_cons_succ]
                refine any_runD 15 52 (.bool false) r3 (by kernel_rfl) rfl rfl (by rfl) ?_ (.inr HSS) ?_
                · have za := HSS
                  have za_0 := za.c0; have za_1 := za.c1; have za_2 := za.c2; have za_3 := za.c3; have za_4 := za.c4
                  go_simp
                simp only [Act.put, List.setIfInBounds_toArray, List.set_cons_zero, List.set_cons_succ]
                refine any_runD 16 53 (.agg #[.int .i64 ((c : Int) - 1), .bool B1, .string ⟨#[49]⟩, .slice (some ⟨QS, 0, none⟩) 1 1, .slice (some ⟨QN, 0, none⟩) 1 1]) r3 (by kernel_rfl) rfl rfl (by rfl) ?_ (.inr HSS) ?_
                · have za := HSS
                  have za_0 := za.c0; have za_1 := za.c1; have za_2 := za.c2; have za_3 := za.c3; have za_4 := za.c4
                  go_simp
                simp only [Act.put, List.setIfInBounds_toArray, List.set_cons_zero, List.set_cons_succ]
                refine any_callV 17 54 (by kernel_rfl) rfl rfl (by rfl) (fn := 35) (args := #[.agg #[.int .i64 ((c : Int) - 1), .bool B1, .string ⟨#[49]⟩, .slice (some ⟨QS, 0, none⟩) 1 1, .slice (some ⟨QN, 0, none⟩) 1 1], .int .i64 2]) ?_ (nested_any (.mk ((c : Int) - 1) B1 ⟨#[49]⟩ [.mk 2 false ⟨#[49]⟩ [] []] [⟨#[110]⟩]) _ 2 (by omega) r3 (Vl.up rk3 _ hv0)) ?_
                · go_simp
                rintro e r4 ⟨ua, rfl, hr4, hua⟩
                have rk4 := extV rk3 hr4
                have HSS : Bx r4 R4 (.int .i64 ((c : Int) - 1)) (.bool B1) (.string ⟨#[49]⟩) (.slice (some ⟨QS, 0, none⟩) 1 1) (.slice (some ⟨QN, 0, none⟩) 1 1) := HSS.below hr4 HSS.lt
                refine ⟨_, rfl, .inr HSS, ?_⟩
                simp only [Act.put, List.setIfInBounds_toArray, List.set_cons_zero, List.set_cons_succ]
                refine any_callV 18 55 (by kernel_rfl) rfl rfl (by rfl) (fn := 3) (args := #[ua]) ?_ (walk_ValueChecks _ _ r4 hua (sm_nest hsm _) (TB.out r4 (extV BWV rk4))) ?_
                · go_simp
                rintro e r5 ⟨rfl, hr5⟩
                have rk5 := extV rk4 hr5
                have HSS : Bx r5 R4 (.int .i64 ((c : Int) - 1)) (.bool B1) (.string ⟨#[49]⟩) (.slice (some ⟨QS, 0, none⟩) 1 1) (.slice (some ⟨QN, 0, none⟩) 1 1) := HSS.below hr5 HSS.lt
                refine ⟨_, rfl, .inr HSS, ?_⟩
                simp only [Act.put, List.setIfInBounds_toArray, List.set_cons_zero, List.set_cons_succ]
                refine any_runD 19 56 (.bool false) r5 (by kernel_rfl) rfl rfl (by rfl) ?_ (.inr HSS) ?_
                · have za := HSS
                  have za_0 := za.c0; have za_1 := za.c1; have za_2 := za.c2; have za_3 := za.c3; have za_4 := za.c4
                  go_simp
                simp only [Act.put, List.setIfInBounds_toArray, List.set_cons_zero, List.set_cons_succ]
                refine any_runD 20 57 (.bool false) r5 (by kernel_rfl) rfl rfl (by rfl) ?_ (.inr HSS) ?_
                · have za := HSS
                  have za_0 := za.c0; have za_1 := za.c1; have za_2 := za.c2; have za_3 := za.c3; have za_4 := za.c4
                  go_simp
                simp only [Act.put, List.setIfInBounds_toArray, List.set_cons_zero, List.set_cons_succ]
                refine any_runD 21 58 (.bool false) r5 (by kernel_rfl) rfl rfl (by rfl) ?_ (.inr HSS) ?_
                · have za := HSS
                  have za_0 := za.c0; have za_1 := za.c1; have za_2 := za.c2; have za_3 := za.c3; have za_4 := za.c4
                  go_simp
                simp only [Act.put, List.setIfInBounds_toArray, List.set_cons_zero, List.set_cons_succ]
                refine any_takeD 22 59 (.agg #[.int .i64 ((c : Int) - 1), .bool B1, .string ⟨#[49]⟩, .slice (some ⟨QS, 0, none⟩) 1 1, .slice (some ⟨QN, 0, none⟩) 1 1]) rfl rfl (by kernel_rfl) (by kernel_rfl) (by kernel_rfl) (by kernel_rfl) (fun _ _ _ h => h) (by rfl) ?_ HSS ?_
                · intro w' hS
                  have za := hS
                  have za_0 := za.c0; have za_1 := za.c1; have za_2 := za.c2; have za_3 := za.c3; have za_4 := za.c4
                  go_simp
                simp only [Act.put, List.setIfInBounds_toArray, List.set_cons_zero, List.set_cons_succ]
                refine any_takeD 24 61 (.agg #[.int .i64 ((c : Int) - 1), .bool B1, .string ⟨#[49]⟩, .slice (some ⟨QS, 0, none⟩) 1 1, .slice (some ⟨QN, 0, none⟩) 1 1]) rfl rfl (by kernel_rfl) (by kernel_rfl) (by kernel_rfl) (by kernel_rfl) (fun _ _ _ h => h) (by rfl) ?_ HSS ?_
                · intro w' hS
                  have za := hS
                  have za_0 := za.c0; have za_1 := za.c1; have za_2 := za.c2; have za_3 := za.c3; have za_4 := za.c4
                  go_simp
                simp only [Act.put, List.setIfInBounds_toArray, List.set_cons_zero, List.set_cons_succ]
                refine any_callV 23 60 (by kernel_rfl) rfl rfl (by rfl) (fn := 35) (args := #[.agg #[.int .i64 ((c : Int) - 1), .bool B1, .string ⟨#[49]⟩, .slice (some ⟨QS, 0, none⟩) 1 1, .slice (some ⟨QN, 0, none⟩) 1 1], .int .i64 1]) ?_ (nested_any (.mk ((c : Int) - 1) B1 ⟨#[49]⟩ [.mk 2 false ⟨#[49]⟩ [] []] [⟨#[110]⟩]) _ 1 (by omega) r5 (Vl.up rk5 _ hv0)) ?_
                · go_simp
                rintro e r6 ⟨ub, rfl, hr6, hub⟩
                have rk6 := extV rk5 hr6
                have HSS : Bx r6 R4 (.int .i64 ((c : Int) - 1)) (.bool B1) (.string ⟨#[49]⟩) (.slice (some ⟨QS, 0, none⟩) 1 1) (.slice (some ⟨QN, 0, none⟩) 1 1) := HSS.below hr6 HSS.lt
                refine ⟨_, rfl, .inr HSS, ?_⟩
                simp only [Act.put, List.setIfInBounds_toArray, List.set_cons_zero, List.set_cons_succ]
                refine any_callV 25 62 (by kernel_rfl) rfl rfl (by rfl) (fn := 35) (args := #[.agg #[.int .i64 ((c : Int) - 1), .bool B1, .string ⟨#[49]⟩, .slice (some ⟨QS, 0, none⟩) 1 1, .slice (some ⟨QN, 0, none⟩) 1 1], .int .i64 2]) ?_ (nested_any (.mk ((c : Int) - 1) B1 ⟨#[49]⟩ [.mk 2 false ⟨#[49]⟩ [] []] [⟨#[110]⟩]) _ 2 (by omega) r6 (Vl.up rk6 _ hv0)) ?_
                · go_simp
                rintro e r7 ⟨uc, rfl, hr7, huc⟩
                have rk7 := extV rk6 hr7
                have hub := Vl.up hr7 _ hub
                have HSS : Bx r7 R4 (.int .i64 ((c : Int) - 1)) (.bool B1) (.string ⟨#[49]⟩) (.slice (some ⟨QS, 0, none⟩) 1 1) (.slice (some ⟨QN, 0, none⟩) 1 1) := HSS.below hr7 HSS.lt
                refine ⟨_, rfl, .inr HSS, ?_⟩
                simp only [Act.put, List.setIfInBounds_toArray, List.set_cons_zero, List.set_cons_succ]
                refine any_callV 26 63 (by kernel_rfl) rfl rfl (by rfl) (fn := 4) (args := #[ub, uc]) ?_ (walk_ValueEquals _ _ _ _ r7 hub (sm_nest hsm _) huc (sm_nest hsm _) (TB.out r7 (extV BWV rk7))) ?_
                · go_simp
                rintro e r8 ⟨rfl, hr8⟩
                have rk8 := extV rk7 hr8
                have HSS : Bx r8 R4 (.int .i64 ((c : Int) - 1)) (.bool B1) (.string ⟨#[49]⟩) (.slice (some ⟨QS, 0, none⟩) 1 1) (.slice (some ⟨QN, 0, none⟩) 1 1) := HSS.below hr8 HSS.lt
                refine ⟨_, rfl, .inr HSS, ?_⟩
                simp only [Act.put, List.setIfInBounds_toArray, List.set_cons_zero, List.set_cons_succ]
                refine any_runD 27 64 (.bool false) r8 (by kernel_rfl) rfl rfl (by rfl) ?_ (.inr HSS) ?_
                · have za := HSS
                  have za_0 := za.c0; have za_1 := za.c1; have za_2 := za.c2; have za_3 := za.c3; have za_4 := za.c4
                  go_simp
                simp only [Act.put, List.setIfInBounds_toArray, List.set_cons_zero, List.set_cons_succ]
                refine any_runD 28 65 (.bool false) r8 (by kernel_rfl) rfl rfl (by rfl) ?_ (.inr HSS) ?_
                · have za := HSS
                  have za_0 := za.c0; have za_1 := za.c1; have za_2 := za.c2; have za_3 := za.c3; have za_4 := za.c4
                  go_simp
                simp only [Act.put, List.setIfInBounds_toArray, List.set_cons_zero, List.set_cons_succ]
                refine any_done (by kernel_rfl) ?_ _
                refine calm_normal ?_
                have LB := Lib.hid (hbx.trans (rk8.mono hbx.size))
                clear HSS px hv0 hsm hbx BWV
                go_wp2_with fail
                exact ⟨⟨b + 1, by go_num, by omega, LB⟩, by simp [intOf]; omega⟩
        · obtain rfl : b = 16 := by omega
          go_wp2_with fail
          exact ⟨⟨c + 1, by first | go_num | (congr 1; omega), by omega, hB⟩, by simp [intOf]; omega⟩
    · skip
      obtain rfl : c = 9 := by omega
      have c1 : ¬ ((9 : Nat) : Int) - 1 < 8 := by omega
      obtain ⟨QI, hQI⟩ : ∃ Q, wr.heap.size = Q := ⟨_, rfl⟩
      obtain ⟨W17, hW17⟩ : ∃ W, wr.alloc (.cells #[.int .i64 (0), .int .i64 (9), .int .i64 (10), .int .i64 (-1), .int .i64 (-9), .int .i64 (-10), .int .i64 (9223372036854775807), .int .i64 (-9223372036854775808)] 3) = W := ⟨_, rfl⟩
      have b17 : Below wr.heap.size wr W17 := by rw [← hW17]; exact below_allocV wr _
      have h17 : W17.heap[QI]? = some (.cells #[.int .i64 (0), .int .i64 (9), .int .i64 (10), .int .i64 (-1), .int .i64 (-9), .int .i64 (-10), .int .i64 (9223372036854775807), .int .i64 (-9223372036854775808)] 3 (0, 0)) := by rw [← hW17, ← hQI]; exact heap_alloc_new wr _
      have NVC : Hid (∀ (i : Nat) (x : Int), nv8[i]? = some x → W17.cell? ⟨QI, i, none⟩ = some (.int .i64 x)) := Lib.hid (fun i x hx => by
        have hi : i < 8 := by have := (List.getElem?_eq_some_iff.1 hx).1; exact this
        simp only [World.cell?, h17]
        rcases (by omega : i = 0 ∨ i = 1 ∨ i = 2 ∨ i = 3 ∨ i = 4 ∨ i = 5 ∨ i = 6 ∨ i = 7) with rfl | rfl | rfl | rfl | rfl | rfl | rfl | rfl <;> (injection hx with hx; subst hx; rfl))
      have B17 := Lib.hid (hK.out.trans (b17.mono hK.out.size))
      have HW17 := Lib.hid hW17
      have HQI := Lib.hid hQI
      clear b17 h17 hW17 hQI
      go_upto_region 18 with fail
      rw [HW17.out, HQI.out]
      go_wp2_with fail
      go_loopw [6] (fun iv wr3 => ∃ i : Nat, iv = .int .i64 i ∧ i ≤ 8 ∧ Hid (Below W17.heap.size W17 wr3)) (fun iv _ => 8 - (intOf iv).toNat)
      case atStart => exact ⟨0, rfl, by omega, Lib.hid (Below.refl _ _)⟩
      case round =>
        obtain ⟨i, rfl, hi8, hI⟩ := hrel
        by_cases hin : i < 8
        · have i1 : (i : Int) < 8 := by omega
          obtain ⟨x, hx⟩ : ∃ x, nv8[i]? = some x := ⟨_, List.getElem?_eq_getElem (show i < nv8.length from hin)⟩
          have hwf := nv8_wf x (List.mem_of_getElem? hx)
          have HX := Lib.hid hx
          obtain ⟨QA, hQA⟩ : ∃ Q, wr.heap.size = Q := ⟨_, rfl⟩
          obtain ⟨W21, hW21⟩ : ∃ W, wr.alloc (.cells #[.string ⟨#[97]⟩] 9) = W := ⟨_, rfl⟩
          have b21 : Below wr.heap.size wr W21 := by rw [← hW21]; exact below_allocV wr _
          have hna : Nm W21 (some ⟨QA, 0, none⟩) 1 1 [⟨#[97]⟩] := Nm.one_at (by rw [← hW21, ← hQA]; exact heap_alloc_new wr _)
          have hI21 := hI.out.trans (b21.mono hI.out.size)
          have hK21 := B17.out.trans (hI21.mono B17.out.size)
          have r0 : W21.cell? ⟨QI, i, none⟩ = some (.int .i64 x) := (hI21.cell (p := ⟨QI, i, none⟩) (lt_of_cell (NVC.out i x hx))).trans (NVC.out i x hx)
          have HNA := Lib.hid hna
          have I21 := Lib.hid hI21
          have K21 := Lib.hid hK21
          have HWF := Lib.hid hwf
          have HW21 := Lib.hid hW21
          have HQA := Lib.hid hQA
          clear hx b21 hna hI21 hK21 hwf
          go_wp2_with fail
          have hwf := HWF.out
          refine (walk_ValueMakes (some ⟨QA, 0, none⟩) 1 1 [⟨#[97]⟩] (some ⟨QS, 0, none⟩) 1 1 [.mk 2 false ⟨#[49]⟩ [] []] x W21 HNA.out (fun x hx => by simp at hx; subst hx; decide) (HVL.out.below K21.out) (fun x hx => by simp at hx; subst hx; exact SM1.out) hwf (TB.out W21 (B2.out.trans (K21.out.mono B2.out.size)))).mono ?_
          rintro e wA ⟨rfl, hbwA⟩
          have IA := Lib.hid (I21.out.trans (hbwA.mono I21.out.size))
          have KA := Lib.hid (K21.out.trans (hbwA.mono K21.out.size))
          clear hbwA r0 hwf hW21 hQA
          have r0 : wA.cell? ⟨QI, i, none⟩ = some (.int .i64 x) := (IA.out.cell (p := ⟨QI, i, none⟩) (lt_of_cell (NVC.out i x HX.out))).trans (NVC.out i x HX.out)
          go_wp2_with fail
          have hwf := HWF.out
          refine (walk_ValueMakes none 0 0 [] none 0 0 [] x wA (Nm.none_ wA) (fun x hx => by cases hx) (VL.none_ wA) (fun x hx => by cases hx) hwf (TB.out wA (B2.out.trans (KA.out.mono B2.out.size)))).mono ?_
          rintro e wB ⟨rfl, hbwB⟩
          have IB := Lib.hid (IA.out.trans (hbwB.mono IA.out.size))
          have KB := Lib.hid (KA.out.trans (hbwB.mono KA.out.size))
          clear hbwB r0 hwf
          have r0 : wB.cell? ⟨QI, i, none⟩ = some (.int .i64 x) := (IB.out.cell (p := ⟨QI, i, none⟩) (lt_of_cell (NVC.out i x HX.out))).trans (NVC.out i x HX.out)
          go_wp2_with fail
          have hwf := HWF.out
          refine (walk_ValueMakes none 0 0 [] (some ⟨QS, 0, none⟩) 1 1 [.mk 2 false ⟨#[49]⟩ [] []] x wB (Nm.none_ wB) (fun x hx => by cases hx) (HVL.out.below KB.out) (fun x hx => by simp at hx; subst hx; exact SM1.out) hwf (TB.out wB (B2.out.trans (KB.out.mono B2.out.size)))).mono ?_
          rintro e wC ⟨rfl, hbwC⟩
          have IC := Lib.hid (IB.out.trans (hbwC.mono IB.out.size))
          clear hbwC r0 hwf
          go_wp2_with fail
          exact ⟨⟨i + 1, by go_num, by omega, IC⟩, by simp [intOf]; omega⟩
        · obtain rfl : i = 8 := by omega
          obtain ⟨QO, hQO⟩ : ∃ Q, wr.heap.size = Q := ⟨_, rfl⟩
          obtain ⟨W23, hW23⟩ : ∃ W, wr.alloc (.cells #[.string ⟨#[97]⟩, .string ⟨#[98]⟩] 9) = W := ⟨_, rfl⟩
          have b23 : Below wr.heap.size wr W23 := by rw [← hW23]; exact below_allocV wr _
          have hno : Nm W23 (some ⟨QO, 0, none⟩) 2 2 [⟨#[97]⟩, ⟨#[98]⟩] := Nm.two_at (by rw [← hW23, ← hQO]; exact heap_alloc_new wr _)
          have hK23 := B17.out.trans ((hI.out.trans (b23.mono hI.out.size)).mono B17.out.size)
          have hodd : Vl W23 (.agg #[.int .i64 5, .bool false, .string ⟨#[]⟩, .slice (some ⟨QS, 0, none⟩) 1 1, .slice (some ⟨QO, 0, none⟩) 2 2]) (.mk 5 false ⟨#[]⟩ [.mk 2 false ⟨#[49]⟩ [] []] [⟨#[97]⟩, ⟨#[98]⟩]) := Vl.shut (t := (.mk 5 false ⟨#[]⟩ [.mk 2 false ⟨#[49]⟩ [] []] [⟨#[97]⟩, ⟨#[98]⟩])) (HVL.out.below hK23) hno (show (-9223372036854775808 : Int) ≤ 5 ∧ (5 : Int) ≤ 9223372036854775807 by omega) (show 0 ≤ 140737488351232 by omega)
          have HOD := Lib.hid hodd
          have K23 := Lib.hid (B2.out.trans (hK23.mono B2.out.size))
          have SMO : Hid (Sm (.mk 5 false ⟨#[]⟩ [.mk 2 false ⟨#[49]⟩ [] []] [⟨#[97]⟩, ⟨#[98]⟩])) := Lib.hid (Sm.mk (fun x hx => by simp at hx; rcases hx with rfl | rfl <;> decide) (fun x hx => by simp at hx; subst hx; exact SM1.out))
          have HW23 := Lib.hid hW23
          have HQO := Lib.hid hQO
          clear b23 hno hK23 hodd
          obtain ⟨R1, hR1⟩ : ∃ R, W23.heap.size = R := ⟨_, rfl⟩
          obtain ⟨U1, hU1⟩ : ∃ U, W23.alloc (.cells #[.int .i64 0, .bool false, .string ⟨#[]⟩, .slice none 0 0, .slice none 0 0] 25) = U := ⟨_, rfl⟩
          obtain ⟨nb, nb2⟩ := newbox hR1 hU1
          obtain ⟨nb3, nb4, nb5⟩ := nb2 (.int .i64 5) (.bool false) (.string ⟨#[]⟩) (.slice (some ⟨QS, 0, none⟩) 1 1) (.slice (some ⟨QO, 0, none⟩) 2 2)
          have e0 := nb.c0; have e1 := nb.c1; have e2 := nb.c2; have e3 := nb.c3; have e4 := nb.c4
          have f0 := nb.fz 0; have f1 := nb.fz 1; have f2 := nb.fz 2; have f3 := nb.fz 3; have f4 := nb.fz 4
          obtain ⟨V1, hV1⟩ : ∃ V, put5 U1 R1 (.int .i64 5) (.bool false) (.string ⟨#[]⟩) (.slice (some ⟨QS, 0, none⟩) 1 1) (.slice (some ⟨QO, 0, none⟩) 2 2) = V := ⟨_, rfl⟩
          rw [hV1] at nb3 nb4 nb5
          have HV1 := Lib.hid hV1
          have HR1 := Lib.hid hR1
          have N1 := Lib.hid nb3
          have NB1 := Lib.hid nb4
          have NS1 := Lib.hid nb5
          clear hV1 nb nb2 nb3 nb4 nb5
          go_upto_region 24 with fail
          rw [show ((((U1.setCell ⟨R1, 0, none⟩ (.int .i64 5)).setCell ⟨R1, 1, none⟩ (.bool false)).setCell ⟨R1, 2, none⟩ (.string ⟨#[]⟩)).setCell ⟨R1, 3, none⟩ (.slice (some ⟨QS, 0, none⟩) 1 1)).setCell ⟨R1, 4, none⟩ (.slice (some ⟨QO, 0, none⟩) 2 2) = V1 from HV1.out]
          clear e0 e1 e2 e3 e4 f0 f1 f2 f3 f4 hU1
          have BX := Lib.hid (extV K23.out NB1.out)
          have VO := Lib.hid (Vl.up NB1.out _ HOD.out)
          clear hR1 hW23 hQO
          go_wp2_with fail
          refine (awake_any V1 (TB.out V1 BX.out)).mono ?_
          rintro e wD ⟨rfl, hbD⟩
          have BD := Lib.hid (extV BX.out hbD)
          have GD := Lib.hid hbD
          clear hbD
          go_wp2_with fail
          refine (walk_ValueDeep 127 0 wD (by decide) (by decide) (TB.out wD BD.out)).mono ?_
          rintro e wE ⟨rfl, hbE⟩
          have BE := Lib.hid (extV BD.out hbE)
          have GE := Lib.hid (extV GD.out hbE)
          clear hbE
          go_wp2_with fail
          refine (walk_ValueDeep 128 0 wE (by decide) (by decide) (TB.out wE BE.out)).mono ?_
          rintro e wF ⟨rfl, hbF⟩
          have BF := Lib.hid (extV BE.out hbF)
          have GF := Lib.hid (extV GE.out hbF)
          clear hbF
          go_wp2_with fail
          refine (walk_ValueDeep 126 0 wF (by decide) (by decide) (TB.out wF BF.out)).mono ?_
          rintro e wG ⟨rfl, hbG⟩
          have BG := Lib.hid (extV BF.out hbG)
          have GG := Lib.hid (extV GF.out hbG)
          clear hbG
          have n1 := N1.out.below GG.out N1.out.lt
          have e00 := n1.c0; have e01 := n1.c1; have e02 := n1.c2; have e03 := n1.c3; have e04 := n1.c4
          clear n1
          go_wp2_with fail
          refine (walk_ValueGets _ (.mk 5 false ⟨#[]⟩ [.mk 2 false ⟨#[49]⟩ [] []] [⟨#[97]⟩, ⟨#[98]⟩]) ⟨#[98]⟩ wG (Vl.up GG.out _ VO.out) SMO.out (by decide) (by decide) (TB.out wG BG.out)).mono ?_
          rintro e wH ⟨rfl, hbH⟩
          have BH := Lib.hid (extV BG.out hbH)
          clear hbH e00 e01 e02 e03 e04
          go_wp2_with fail
          refine (vcopy_any zeroT _ wH (vl_plain wH (k := 0) false (s := ⟨#[]⟩) ⟨by omega, by omega⟩ (by decide))).mono ?_
          rintro e wI ⟨AI, mI, cI, BI, qI, dI, rfl, hbI, hoI⟩
          have BII := Lib.hid (extV BH.out hbI)
          have VI := Lib.hid (hoI.vl _)
          clear hbI hoI
          go_wp2_with fail
          refine (requal_any zeroT zeroT _ _ wI (vl_plain wI (k := 0) false (s := ⟨#[]⟩) ⟨by omega, by omega⟩ (by decide)) VI.out).mono ?_
          rintro e wJ ⟨rfl, hbJ⟩
          rw [alk_self]
          have BJ := Lib.hid (extV BII.out hbJ)
          clear hbJ
          go_wp2_with fail
          go_ret
          exact ⟨rfl, BJ.out⟩
end Go.Proofs.YtlgeibaejeiemaaDoor
