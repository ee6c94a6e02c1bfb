/-
  What the document's digits and Number of layer 10 compute.
-/
import Derived.Test.YtlgeibaejeiemaaDoorVk
import Derived.Test.YtlgeibaejeiemaaDoorEs
import Derived.KernelRfl
import Derived.Deep.RegionWith
namespace Go.Proofs.YtlgeibaejeiemaaDoor
set_option linter.unusedVariables false
set_option linter.unusedSimpArgs false
open Go.RowKit
namespace Vt
open Wd We Es
open Dm (decs)

theorem bs_snocV (l : List Int) (x : Int) : Dm.bs l ++ Dm.bs [x] = Dm.bs (l ++ [x]) := by
  apply ByteArray.ext
  rw [ByteArray.data_append]
  unfold Dm.bs
  simp
theorem bs_app (l m : List Int) : Dm.bs l ++ Dm.bs m = Dm.bs (l ++ m) := by
  apply ByteArray.ext
  rw [ByteArray.data_append]
  unfold Dm.bs
  simp

theorem bs_appV (l m : List Int) : Dm.bs l ++ Dm.bs m = Dm.bs (l ++ m) := by
  apply ByteArray.ext
  rw [ByteArray.data_append]
  unfold Dm.bs
  simp

set_option maxRecDepth 100000 in
set_option maxHeartbeats 1600000 in
theorem rdigits_any : ∀ (n : Nat) (x : Int) (hx : x = -(n : Int)) (hn : n ≤ 9223372036854775808) (w : World),
    Calls Tryd.prog 43 #[.int .i64 x] w fun e w' => e = .returned (.string (Dm.bs (decs n))) ∧ Below w.heap.size w w' := by
  intro n
  induction n using Nat.strongRecOn with
  | _ n ih =>
    intro x hx hn w
    obtain ⟨q, hq⟩ : ∃ q, n / 10 = q := ⟨_, rfl⟩
    obtain ⟨r, hr⟩ : ∃ r, n % 10 = r := ⟨_, rfl⟩
    have hr2 : r < 10 := by omega
    have ht : x.tmod 10 = -(r : Int) := by rw [hx, Int.neg_tmod, Int.tmod_eq_emod_of_nonneg (by omega)]; omega
    have hd : x.tdiv 10 = -(q : Int) := by rw [hx, Int.neg_tdiv, Int.tdiv_eq_ediv_of_nonneg (by omega)]; omega
    have hqn : q ≤ n := by omega
    have hw1 : IntKind.i64.wrap (-(q : Int)) = -(q : Int) := by rw [IntKind.wrap_i64]; omega
    have hw2 : IntKind.i64.wrap (-(r : Int)) = -(r : Int) := by rw [IntKind.wrap_i64]; omega
    have hw3 : IntKind.i64.wrap (48 - -(r : Int)) = 48 + (r : Int) := by rw [IntKind.wrap_i64]; omega
    have hw4 : IntKind.u8.wrap (48 + (r : Int)) = 48 + (r : Int) := by simp [IntKind.wrap, IntKind.signed, IntKind.bits]; omega
    have SE : Sl .u8 (w.alloc (.cells #[.int .u8 (48 + (r : Int))] 5)) (some ⟨w.heap.size, 0, none⟩) 1 1 [48 + (r : Int)] := Sl.new w [48 + (r : Int)] 5 .u8 (by unfold maxLen; simp)
    have kb := conv_bs SE
    have B1 := Lib.hid (below_allocV w (.cells #[.int .u8 (48 + (r : Int))] 5))
    by_cases h : n < 10
    · have h' : -10 < x := by omega
      have hdn : decs n = [48 + (r : Int)] := by rw [Dm.decs_one h]; congr 2; omega
      rw [hdn]
      clear SE hdn ih hx hq hr
      go_enter Tryd.func43, Tryd.ntmps43
      go_wp2
      go_ret
      exact ⟨rfl, B1.out⟩
    · have h' : ¬ -10 < x := by omega
      have IH := Lib.hid (fun w' => ih q (by omega) (-(q : Int)) rfl (by omega) w')
      have HD : Hid (decs n = decs q ++ [48 + (r : Int)]) := Lib.hid (by rw [Dm.decs_more (n := n) (by omega), hq, hr])
      have hZs : (Dm.bs (decs q)).size ≤ 19 := by rw [Dm.bs_size]; exact Dm.decs_length_le (by omega)
      have hYs : (Dm.bs [48 + (r : Int)]).size = 1 := Dm.bs_size _
      have HR : Hid (Dm.bs (decs n) = Dm.bs (decs q) ++ Dm.bs [48 + (r : Int)]) := Lib.hid (by rw [bs_snocV, HD.out])
      obtain ⟨Z, hZ⟩ : ∃ Z, Dm.bs (decs q) = Z := ⟨_, rfl⟩
      obtain ⟨Y, hY⟩ : ∃ Y, Dm.bs [48 + (r : Int)] = Y := ⟨_, rfl⟩
      rw [hZ] at hZs IH HR
      rw [hY] at hYs kb HR
      rw [HR.out]
      clear SE ih hx hq hr hZ hY
      go_enter Tryd.func43, Tryd.ntmps43
      go_wp2_with fail
      refine (IH.out _).mono ?_
      rintro e w8 ⟨rfl, hb8⟩
      go_wp2
      go_ret
      exact ⟨rfl, extV B1.out hb8⟩

/-- a number's text -/
def numT (x : Int) : ByteArray := if x < 0 then Dm.bs (45 :: decs x.natAbs) else Dm.bs (decs x.natAbs)
set_option maxRecDepth 100000 in
set_option maxHeartbeats 1600000 in
theorem rnumber_any (x : Int) (h0 : -9223372036854775808 ≤ x) (h1 : x ≤ 9223372036854775807) (w : World) :
    Calls Tryd.prog 31 #[.int .i64 x] w fun e w' => e = .returned (.agg #[.int .i64 2, .bool false, .string (numT x), .slice none 0 0, .slice none 0 0]) ∧ Below w.heap.size w w' := by
  obtain ⟨R, hR⟩ : ∃ R, w.heap.size = R := ⟨_, rfl⟩
  obtain ⟨W2, hW2⟩ : ∃ W2, w.alloc (.cells #[.int .i64 0, .bool false, .string ⟨#[]⟩, .slice none 0 0, .slice none 0 0] 25) = W2 := ⟨_, rfl⟩
  have b2 : Below w.heap.size w W2 := by rw [← hW2]; exact below_allocV w _
  have B2 := Lib.hid b2
  have R2 : Hid (Bx W2 R (.int .i64 0) (.bool false) (.string ⟨#[]⟩) (.slice none 0 0) (.slice none 0 0)) := Lib.hid (by rw [← hW2, ← hR]; exact heap_alloc_new w _)
  have HR := Lib.hid hR
  have HW2 := Lib.hid hW2
  obtain ⟨T, hT⟩ : ∃ T, numT x = T := ⟨_, rfl⟩
  rw [hT]
  have HT := Lib.hid hT
  clear b2 hW2 hR hT
  have hZs : (Dm.bs (decs x.natAbs)).size ≤ 19 := by rw [Dm.bs_size]; exact Dm.decs_length_le (by omega)
  by_cases hx : x < 0
  · obtain rfl : Dm.bs (45 :: decs x.natAbs) = T := by rw [← HT.out]; unfold numT; rw [if_pos hx]
    have HC := Lib.hid (bs_appV [45] (decs x.natAbs))
    rw [show (45 : Int) :: decs x.natAbs = [45] ++ decs x.natAbs from rfl, ← HC.out]
    rw [show Dm.bs [45] = ⟨#[45]⟩ from rfl]
    have CT := Lib.hid (fun w' => rdigits_any x.natAbs x (by omega) (by omega) w')
    obtain ⟨Z, hZ⟩ : ∃ Z, Dm.bs (decs x.natAbs) = Z := ⟨_, rfl⟩
    rw [hZ] at CT hZs ⊢
    clear hZ
    go_enter Tryd.func31, Tryd.ntmps31
    go_wp2_with fail
    rw [HR.out]
    rw [HW2.out]
    refine (CT.out _).mono ?_
    rintro e w8 ⟨rfl, hb8⟩
    have HB8 := Lib.hid hb8
    have RY := Lib.hid (R2.out.below hb8 R2.out.lt)
    clear hb8
    have f0 := RY.out.fz 0
    have d0 := RY.out.c0
    have f1 := RY.out.fz 1
    have d1 := RY.out.c1
    have f2 := RY.out.fz 2
    have d2 := RY.out.c2
    have f3 := RY.out.fz 3
    have d3 := RY.out.c3
    have f4 := RY.out.fz 4
    have d4 := RY.out.c4
    go_wp2_with fail
    have RZ := put5_bx (a := .int .i64 2) (b := .bool false) (s := (.string (⟨#[45]⟩ ++ Z))) (x := .slice none 0 0) (y := .slice none 0 0) RY.out
    have BZ := put5_below (a := .int .i64 2) (b := .bool false) (s := (.string (⟨#[45]⟩ ++ Z))) (x := .slice none 0 0) (y := .slice none 0 0) (R := R) (extV B2.out HB8.out) (show w.heap.size ≤ R by have := HR.out; omega)
    clear f0 f1 f2 f3 f4 d0 d1 d2 d3 d4
    rw [show ((((w8.setCell ⟨R, 0, none⟩ (.int .i64 2)).setCell ⟨R, 1, none⟩ (.bool false)).setCell ⟨R, 2, none⟩ (.string (⟨#[45]⟩ ++ Z))).setCell ⟨R, 3, none⟩ (.slice none 0 0)).setCell ⟨R, 4, none⟩ (.slice none 0 0) = put5 w8 R (.int .i64 2) (.bool false) (.string (⟨#[45]⟩ ++ Z)) (.slice none 0 0) (.slice none 0 0) from rfl]
    generalize put5 w8 R (.int .i64 2) (.bool false) (.string (⟨#[45]⟩ ++ Z)) (.slice none 0 0) (.slice none 0 0) = w9 at *
    have e0 := RZ.c0
    have e1 := RZ.c1
    have e2 := RZ.c2
    have e3 := RZ.c3
    have e4 := RZ.c4
    refine bodyPost_ret (v := .agg #[.int .i64 2, .bool false, (.string (⟨#[45]⟩ ++ Z)), .slice none 0 0, .slice none 0 0]) ?_ rfl ⟨rfl, BZ⟩
    simp only [results]
    go_simp
  · obtain rfl : Dm.bs (decs x.natAbs) = T := by rw [← HT.out]; unfold numT; rw [if_neg hx]
    have CT := Lib.hid (fun w' => rdigits_any x.natAbs (-x) (by omega) (by omega) w')
    obtain ⟨Z, hZ⟩ : ∃ Z, Dm.bs (decs x.natAbs) = Z := ⟨_, rfl⟩
    rw [hZ] at CT hZs ⊢
    clear hZ
    have hw : IntKind.i64.wrap (-x) = -x := by rw [IntKind.wrap_i64]; omega
    go_enter Tryd.func31, Tryd.ntmps31
    go_wp2_with fail
    rw [HR.out]
    rw [HW2.out]
    refine (CT.out _).mono ?_
    rintro e w8 ⟨rfl, hb8⟩
    have HB8 := Lib.hid hb8
    have RY := Lib.hid (R2.out.below hb8 R2.out.lt)
    clear hb8
    have f0 := RY.out.fz 0
    have d0 := RY.out.c0
    have f1 := RY.out.fz 1
    have d1 := RY.out.c1
    have f2 := RY.out.fz 2
    have d2 := RY.out.c2
    have f3 := RY.out.fz 3
    have d3 := RY.out.c3
    have f4 := RY.out.fz 4
    have d4 := RY.out.c4
    go_wp2_with fail
    have RZ := put5_bx (a := .int .i64 2) (b := .bool false) (s := (.string Z)) (x := .slice none 0 0) (y := .slice none 0 0) RY.out
    have BZ := put5_below (a := .int .i64 2) (b := .bool false) (s := (.string Z)) (x := .slice none 0 0) (y := .slice none 0 0) (R := R) (extV B2.out HB8.out) (show w.heap.size ≤ R by have := HR.out; omega)
    clear f0 f1 f2 f3 f4 d0 d1 d2 d3 d4
    rw [show ((((w8.setCell ⟨R, 0, none⟩ (.int .i64 2)).setCell ⟨R, 1, none⟩ (.bool false)).setCell ⟨R, 2, none⟩ (.string Z)).setCell ⟨R, 3, none⟩ (.slice none 0 0)).setCell ⟨R, 4, none⟩ (.slice none 0 0) = put5 w8 R (.int .i64 2) (.bool false) (.string Z) (.slice none 0 0) (.slice none 0 0) from rfl]
    generalize put5 w8 R (.int .i64 2) (.bool false) (.string Z) (.slice none 0 0) (.slice none 0 0) = w9 at *
    have e0 := RZ.c0
    have e1 := RZ.c1
    have e2 := RZ.c2
    have e3 := RZ.c3
    have e4 := RZ.c4
    refine bodyPost_ret (v := .agg #[.int .i64 2, .bool false, (.string Z), .slice none 0 0, .slice none 0 0]) ?_ rfl ⟨rfl, BZ⟩
    simp only [results]
    go_simp
end Vt
end Go.Proofs.YtlgeibaejeiemaaDoor
