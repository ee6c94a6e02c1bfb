/-
  The walk of PlaceKnown.
-/
import Derived.Test.YtfpgnnjkojpmdaaPi
import Derived.Test.YtfpgnnjkojpmdaaPj
import Derived.Test.YtfpgnnjkojpmdaaWe
import Derived.Test.YtfpgnnjkojpmdaaWp
namespace Go.Proofs.Ytfpgnnjkojpmdaa
set_option linter.unusedVariables false
set_option linter.unusedSimpArgs false
open Go.RowKit Go.ChangeShapes Go.WideShapes
open Utf Wd Wr We Wi Lm Lc Pc

def etx : List Int := [97, 13, 10, 13, 98, 10]
theorem etx_ok : Chars etx := okB_true.1 (by decide)
theorem etx_enc : encs etx = [97, 13, 10, 13, 98, 10] := by decide
theorem etx_few : ((Lm.ends 0 (encs etx)).length + 1) * 16 ≤ 140737488355328 := by decide
theorem ptx_far : off ptx 4611686018427387904 4611686018427387904 = 9 := by rw [off_out (by decide)]; decide

set_option maxRecDepth 100000 in
set_option maxHeartbeats 12800000 in
theorem walk_PlaceKnown  (w : World)  :
    Calls Try.prog 11 #[] w fun e w' => e = .returned (.bool true) ∧ Below w.heap.size w w' := by
  go_enter Try.func11, Try.ntmps11
  go_wp2_with fail
  refine (lchapter_any _).mono ?_
  rintro e w1 ⟨A0, rfl, hs, hb⟩
  have S := Lib.hid hs
  have B1 := Lib.hid hb
  clear hs hb
  go_wp2_with fail
  refine (pnew_ok _ _ _ _ _ ptx_ok S.out ptx_few (by decide)).mono ?_
  rintro r w2 ⟨M, P, A, c, rfl, hM, hb⟩
  have HM2 := Lib.hid hM
  have B2 := Lib.hid (ext_trans B1.out hb)
  clear hM hb B1 S
  go_wp2_with fail
  refine (lat_ok M P A c ptx _ HM2.out 0 1 1 (by decide) (by decide)).mono ?_
  rintro r w3 ⟨rfl, hb⟩
  have HM3 := Lib.hid (HM2.out.ext hb)
  have B3 := Lib.hid (ext_trans B2.out hb)
  clear hb HM2 B2
  go_wp2_with fail
  refine (lat_ok M P A c ptx _ HM3.out 1 0 8 (by decide) (by decide)).mono ?_
  rintro r w4 ⟨rfl, hb⟩
  have HM4 := Lib.hid (HM3.out.ext hb)
  have B4 := Lib.hid (ext_trans B3.out hb)
  clear hb HM3 B3
  go_wp2_with fail
  refine (lat_ok M P A c ptx _ HM4.out 1 9 9 (by decide) (by decide)).mono ?_
  rintro r w5 ⟨rfl, hb⟩
  have HM5 := Lib.hid (HM4.out.ext hb)
  have B5 := Lib.hid (ext_trans B4.out hb)
  clear hb HM4 B4
  go_wp2_with fail
  refine (lat_ok M P A c ptx _ HM5.out 2 0 9 (by decide) (by decide)).mono ?_
  rintro r w6 ⟨rfl, hb⟩
  have HM6 := Lib.hid (HM5.out.ext hb)
  have B6 := Lib.hid (ext_trans B5.out hb)
  clear hb HM5 B5
  go_wp2_with fail
  refine (lat_ok M P A c ptx _ HM6.out 4611686018427387904 4611686018427387904 9 (by decide) ptx_far).mono ?_
  rintro r w7 ⟨rfl, hb⟩
  have HM7 := Lib.hid (HM6.out.ext hb)
  have B7 := Lib.hid (ext_trans B6.out hb)
  clear hb HM6 B6
  go_wp2_with fail
  refine (lof_ok M P A c ptx _ HM7.out 0 0 0 (by decide) (by decide)).mono ?_
  rintro r w8 ⟨rfl, hb⟩
  have HM8 := Lib.hid (HM7.out.ext hb)
  have B8 := Lib.hid (ext_trans B7.out hb)
  clear hb HM7 B7
  go_wp2_with fail
  refine (lof_ok M P A c ptx _ HM8.out 1 0 1 (by decide) (by decide)).mono ?_
  rintro r w9 ⟨rfl, hb⟩
  have HM9 := Lib.hid (HM8.out.ext hb)
  have B9 := Lib.hid (ext_trans B8.out hb)
  clear hb HM8 B8
  go_wp2_with fail
  refine (lof_ok M P A c ptx _ HM9.out 3 0 2 (by decide) (by decide)).mono ?_
  rintro r w10 ⟨rfl, hb⟩
  have HM10 := Lib.hid (HM9.out.ext hb)
  have B10 := Lib.hid (ext_trans B9.out hb)
  clear hb HM9 B9
  go_wp2_with fail
  refine (lof_ok M P A c ptx _ HM10.out 4 0 2 (by decide) (by decide)).mono ?_
  rintro r w11 ⟨rfl, hb⟩
  have HM11 := Lib.hid (HM10.out.ext hb)
  have B11 := Lib.hid (ext_trans B10.out hb)
  clear hb HM10 B10
  go_wp2_with fail
  refine (lof_ok M P A c ptx _ HM11.out 6 0 2 (by decide) (by decide)).mono ?_
  rintro r w12 ⟨rfl, hb⟩
  have HM12 := Lib.hid (HM11.out.ext hb)
  have B12 := Lib.hid (ext_trans B11.out hb)
  clear hb HM11 B11
  go_wp2_with fail
  refine (lof_ok M P A c ptx _ HM12.out 8 1 0 (by decide) (by decide)).mono ?_
  rintro r w13 ⟨rfl, hb⟩
  have HM13 := Lib.hid (HM12.out.ext hb)
  have B13 := Lib.hid (ext_trans B12.out hb)
  clear hb HM12 B12
  go_wp2_with fail
  refine (lpos_any _ _ _).mono ?_
  rintro r w14 ⟨rfl, hb⟩
  have HM14 := Lib.hid (HM13.out.ext hb)
  have B14 := Lib.hid (ext_trans B13.out hb)
  clear hb HM13 B13
  go_wp2_with fail
  refine (offset_at M P A c ptx _ HM14.out (-1) (0) (by decide) (n := 0) (e := 9) (by decide)).mono ?_
  rintro r w15 ⟨rfl, hb⟩
  have HM15 := Lib.hid (HM14.out.ext hb)
  have B15 := Lib.hid (ext_trans B14.out hb)
  clear hb HM14 B14
  go_wp2_with fail
  refine (lpos_any _ _ _).mono ?_
  rintro r w16 ⟨rfl, hb⟩
  have HM16 := Lib.hid (HM15.out.ext hb)
  have B16 := Lib.hid (ext_trans B15.out hb)
  clear hb HM15 B15
  go_wp2_with fail
  refine (offset_at M P A c ptx _ HM16.out (0) (-1) (by decide) (n := 0) (e := 9) (by decide)).mono ?_
  rintro r w17 ⟨rfl, hb⟩
  have HM17 := Lib.hid (HM16.out.ext hb)
  have B17 := Lib.hid (ext_trans B16.out hb)
  clear hb HM16 B16
  go_wp2_with fail
  refine (lpos_any _ _ _).mono ?_
  rintro r w18 ⟨rfl, hb⟩
  have HM18 := Lib.hid (HM17.out.ext hb)
  have B18 := Lib.hid (ext_trans B17.out hb)
  clear hb HM17 B17
  go_wp2_with fail
  refine (offset_at M P A c ptx _ HM18.out (9) (-1) (by decide) (n := 0) (e := 9) (by decide)).mono ?_
  rintro r w19 ⟨rfl, hb⟩
  have HM19 := Lib.hid (HM18.out.ext hb)
  have B19 := Lib.hid (ext_trans B18.out hb)
  clear hb HM18 B18
  go_wp2_with fail
  refine (pos_at M P A c ptx _ HM19.out (10) (x := 0) (y := 0) (e := 9) (by decide)).mono ?_
  rintro r w20 ⟨rfl, hb⟩
  replace hb := ext_trans hb (below_alloc w20 (.cells #[.int .i64 0, .int .i64 0] 24))
  have HM20 := Lib.hid (HM19.out.ext hb)
  have B20 := Lib.hid (ext_trans B19.out hb)
  clear hb HM19 B19
  go_wp2_with fail
  refine (pos_at M P A c ptx _ HM20.out (-1) (x := 0) (y := 0) (e := 9) (by decide)).mono ?_
  rintro r w21 ⟨rfl, hb⟩
  replace hb := ext_trans hb (below_alloc w21 (.cells #[.int .i64 0, .int .i64 0] 24))
  have HM21 := Lib.hid (HM20.out.ext hb)
  have B21 := Lib.hid (ext_trans B20.out hb)
  clear hb HM20 B20
  go_wp2_with fail
  refine (lpos_any _ _ _).mono ?_
  rintro r w22 ⟨rfl, hb⟩
  have HM22 := Lib.hid (HM21.out.ext hb)
  have B22 := Lib.hid (ext_trans B21.out hb)
  clear hb HM21 B21
  go_wp2_with fail
  refine (lpos_any _ _ _).mono ?_
  rintro r w23 ⟨rfl, hb⟩
  have HM23 := Lib.hid (HM22.out.ext hb)
  have B23 := Lib.hid (ext_trans B22.out hb)
  clear hb HM22 B22
  go_wp2_with fail
  refine (span_at M P A c ptx _ HM23.out (0) (1) (1) (0) (by decide) (by decide) (x := 1) (y := 8) (e := 0) (by decide)).mono ?_
  rintro r w24 ⟨rfl, hb⟩
  replace hb := ext_trans hb (below_alloc w24 (.cells #[.int .i64 1, .int .i64 8] 44))
  have HM24 := Lib.hid (HM23.out.ext hb)
  have B24 := Lib.hid (ext_trans B23.out hb)
  clear hb HM23 B23
  have BSP24 := Lib.hid (Blk.new w24 44 #[.int .i64 1, .int .i64 8])
  have nBSP : w24.heap.size = w24.heap.size := rfl
  clear nBSP
  go_wp2_with fail
  refine (lpos_any _ _ _).mono ?_
  rintro r w25 ⟨rfl, hb⟩
  have HM25 := Lib.hid (HM24.out.ext hb)
  have B25 := Lib.hid (ext_trans B24.out hb)
  have BSP25 := Lib.hid (BSP24.out.ext hb)
  clear hb HM24 B24 BSP24
  go_wp2_with fail
  refine (lpos_any _ _ _).mono ?_
  rintro r w26 ⟨rfl, hb⟩
  have HM26 := Lib.hid (HM25.out.ext hb)
  have B26 := Lib.hid (ext_trans B25.out hb)
  have BSP26 := Lib.hid (BSP25.out.ext hb)
  clear hb HM25 B25 BSP25
  go_wp2_with fail
  refine (span_at M P A c ptx _ HM26.out (1) (0) (0) (1) (by decide) (by decide) (x := 0) (y := 0) (e := 2) (by decide)).mono ?_
  rintro r w27 ⟨rfl, hb⟩
  replace hb := ext_trans hb (below_alloc w27 (.cells #[.int .i64 0, .int .i64 0] 44))
  have HM27 := Lib.hid (HM26.out.ext hb)
  have B27 := Lib.hid (ext_trans B26.out hb)
  have BSP27 := Lib.hid (BSP26.out.ext hb)
  clear hb HM26 B26 BSP26
  go_wp2_with fail
  refine (lpos_any _ _ _).mono ?_
  rintro r w28 ⟨rfl, hb⟩
  have HM28 := Lib.hid (HM27.out.ext hb)
  have B28 := Lib.hid (ext_trans B27.out hb)
  have BSP28 := Lib.hid (BSP27.out.ext hb)
  clear hb HM27 B27 BSP27
  go_wp2_with fail
  refine (lpos_any _ _ _).mono ?_
  rintro r w29 ⟨rfl, hb⟩
  have HM29 := Lib.hid (HM28.out.ext hb)
  have B29 := Lib.hid (ext_trans B28.out hb)
  have BSP29 := Lib.hid (BSP28.out.ext hb)
  clear hb HM28 B28 BSP28
  go_wp2_with fail
  refine (span_at M P A c ptx _ HM29.out (1) (0) (0) (-1) (by decide) (by decide) (x := 0) (y := 0) (e := 9) (by decide)).mono ?_
  rintro r w30 ⟨rfl, hb⟩
  replace hb := ext_trans hb (below_alloc w30 (.cells #[.int .i64 0, .int .i64 0] 44))
  have HM30 := Lib.hid (HM29.out.ext hb)
  have B30 := Lib.hid (ext_trans B29.out hb)
  have BSP30 := Lib.hid (BSP29.out.ext hb)
  clear hb HM29 B29 BSP29
  go_wp2_with fail
  refine (range_at M P A c ptx _ HM30.out (1) (8) (x := 0) (y := 1) (x' := 1) (y' := 0) (e := 0) (by decide)).mono ?_
  rintro r w31 ⟨rfl, hb⟩
  replace hb := ext_trans hb (below_alloc w31 (.cells #[.int .i64 0, .int .i64 1, .int .i64 1, .int .i64 0] 42))
  have HM31 := Lib.hid (HM30.out.ext hb)
  have B31 := Lib.hid (ext_trans B30.out hb)
  have BSP31 := Lib.hid (BSP30.out.ext hb)
  clear hb HM30 B30 BSP30
  have BRG31 := Lib.hid (Blk.new w31 42 #[.int .i64 0, .int .i64 1, .int .i64 1, .int .i64 0])
  have nBRG : w31.heap.size = w31.heap.size := rfl
  clear nBRG
  go_wp2_with fail
  refine (range_at M P A c ptx _ HM31.out (8) (1) (x := 0) (y := 0) (x' := 0) (y' := 0) (e := 2) (by decide)).mono ?_
  rintro r w32 ⟨rfl, hb⟩
  replace hb := ext_trans hb (below_alloc w32 (.cells #[.int .i64 0, .int .i64 0, .int .i64 0, .int .i64 0] 42))
  have HM32 := Lib.hid (HM31.out.ext hb)
  have B32 := Lib.hid (ext_trans B31.out hb)
  have BSP32 := Lib.hid (BSP31.out.ext hb)
  have BRG32 := Lib.hid (BRG31.out.ext hb)
  clear hb HM31 B31 BSP31 BRG31
  go_wp2_with fail
  refine (range_at M P A c ptx _ HM32.out (1) (10) (x := 0) (y := 0) (x' := 0) (y' := 0) (e := 9) (by decide)).mono ?_
  rintro r w33 ⟨rfl, hb⟩
  replace hb := ext_trans hb (below_alloc w33 (.cells #[.int .i64 0, .int .i64 0, .int .i64 0, .int .i64 0] 42))
  have HM33 := Lib.hid (HM32.out.ext hb)
  have B33 := Lib.hid (ext_trans B32.out hb)
  have BSP33 := Lib.hid (BSP32.out.ext hb)
  have BRG33 := Lib.hid (BRG32.out.ext hb)
  clear hb HM32 B32 BSP32 BRG32
  have s0 := BSP33.out.at_ 0 rfl
  have s1 := BSP33.out.at_ 1 rfl
  have sl := BSP33.out.lt
  have r0 := BRG33.out.at_ 0 rfl
  have r1 := BRG33.out.at_ 1 rfl
  have r2 := BRG33.out.at_ 2 rfl
  have r3 := BRG33.out.at_ 3 rfl
  have rl := BRG33.out.lt
  go_wp2_with fail
  generalize w33.alloc (.cells #[.int .i64 0, .int .i64 0, .int .i64 0, .int .i64 0] 42) = W1 at *
  generalize w24.heap.size = X1 at *
  generalize w31.heap.size = X2 at *
  have HS := Lib.hid (show ∀ w', Below W1.heap.size W1 w' → (w'.cell? ⟨X1, 0, none⟩ = some (.int .i64 1) ∧ w'.cell? ⟨X1, 1, none⟩ = some (.int .i64 8) ∧ w'.cell? ⟨X2, 0, none⟩ = some (.int .i64 0) ∧ w'.cell? ⟨X2, 1, none⟩ = some (.int .i64 1) ∧ w'.cell? ⟨X2, 2, none⟩ = some (.int .i64 1) ∧ w'.cell? ⟨X2, 3, none⟩ = some (.int .i64 0) ∧ Below W1.heap.size W1 w') from fun w' hb => ⟨(hb.cell (p := ⟨X1, 0, none⟩) sl).trans s0, (hb.cell (p := ⟨X1, 1, none⟩) sl).trans s1, (hb.cell (p := ⟨X2, 0, none⟩) rl).trans r0, (hb.cell (p := ⟨X2, 1, none⟩) rl).trans r1, (hb.cell (p := ⟨X2, 2, none⟩) rl).trans r2, (hb.cell (p := ⟨X2, 3, none⟩) rl).trans r3, hb⟩)
  go_region_held3 (fun w' => w'.cell? ⟨X1, 0, none⟩ = some (.int .i64 1) ∧ w'.cell? ⟨X1, 1, none⟩ = some (.int .i64 8) ∧ w'.cell? ⟨X2, 0, none⟩ = some (.int .i64 0) ∧ w'.cell? ⟨X2, 1, none⟩ = some (.int .i64 1) ∧ w'.cell? ⟨X2, 2, none⟩ = some (.int .i64 1) ∧ w'.cell? ⟨X2, 3, none⟩ = some (.int .i64 0) ∧ Below W1.heap.size W1 w') (exact HS.out _ (by repeat (first | assumption | exact Below.refl _ _ | refine below_drew ?_))) (first | (go_at_call 32; refine (lpos_any _ _ _).mono ?_; rintro e w50 ⟨rfl, hb2⟩; have hb3 := Below.trans (show Below W1.heap.size W1 _ by repeat (first | assumption | exact Below.refl _ _ | refine below_drew ?_)) (hb2.mono (by first | exact Nat.le_refl _ | exact Below.size (by assumption))); clear hb2))
  have B50 := Lib.hid (ext_trans B33.out hb3)
  clear hb3 HS s0 s1 sl r0 r1 r2 r3 rl HM33 B33 BSP33 BRG33
  have hsl : Sl .u8 (w50.alloc (.cells #[.int .u8 97, .int .u8 13, .int .u8 10, .int .u8 13, .int .u8 98, .int .u8 10] 5)) (some ⟨w50.heap.size, 0, none⟩) 6 6 (encs etx) := by
    rw [etx_enc]; exact Sl.new w50 [97, 13, 10, 13, 98, 10] 5 .u8 (by decide)
  have HS6 := Lib.hid hsl
  have B51 := Lib.hid (ext_trans B50.out (below_alloc w50 (.cells #[.int .u8 97, .int .u8 13, .int .u8 10, .int .u8 13, .int .u8 98, .int .u8 10] 5)))
  clear hsl B50
  go_wp2_with fail
  refine (pnew_ok _ _ _ _ _ etx_ok HS6.out etx_few (by decide)).mono ?_
  rintro r w52 ⟨N, PN, AN, cN, rfl, hM, hb⟩
  have HW52 := Lib.hid hM
  have B52 := Lib.hid (ext_trans B51.out hb)
  clear hM hb B51 HS6
  go_wp2_with fail
  refine (lof_ok N PN AN cN etx _ HW52.out 1 0 1 (by decide) (by decide)).mono ?_
  rintro r w53 ⟨rfl, hb⟩
  have HW53 := Lib.hid (HW52.out.ext hb)
  have B53 := Lib.hid (ext_trans B52.out hb)
  clear hb HW52 B52
  go_wp2_with fail
  refine (lof_ok N PN AN cN etx _ HW53.out 2 0 1 (by decide) (by decide)).mono ?_
  rintro r w54 ⟨rfl, hb⟩
  have HW54 := Lib.hid (HW53.out.ext hb)
  have B54 := Lib.hid (ext_trans B53.out hb)
  clear hb HW53 B53
  go_wp2_with fail
  refine (lof_ok N PN AN cN etx _ HW54.out 3 1 0 (by decide) (by decide)).mono ?_
  rintro r w55 ⟨rfl, hb⟩
  have HW55 := Lib.hid (HW54.out.ext hb)
  have B55 := Lib.hid (ext_trans B54.out hb)
  clear hb HW54 B54
  go_wp2_with fail
  refine (lof_ok N PN AN cN etx _ HW55.out 4 2 0 (by decide) (by decide)).mono ?_
  rintro r w56 ⟨rfl, hb⟩
  have HW56 := Lib.hid (HW55.out.ext hb)
  have B56 := Lib.hid (ext_trans B55.out hb)
  clear hb HW55 B55
  go_wp2_with fail
  refine (lof_ok N PN AN cN etx _ HW56.out 5 2 1 (by decide) (by decide)).mono ?_
  rintro r w57 ⟨rfl, hb⟩
  have HW57 := Lib.hid (HW56.out.ext hb)
  have B57 := Lib.hid (ext_trans B56.out hb)
  clear hb HW56 B56
  go_wp2_with fail
  refine (lof_ok N PN AN cN etx _ HW57.out 6 3 0 (by decide) (by decide)).mono ?_
  rintro r w58 ⟨rfl, hb⟩
  have HW58 := Lib.hid (HW57.out.ext hb)
  have B58 := Lib.hid (ext_trans B57.out hb)
  clear hb HW57 B57
  go_wp2_with fail
  refine (lat_ok N PN AN cN etx _ HW58.out 0 5 1 (by decide) (by decide)).mono ?_
  rintro r w59 ⟨rfl, hb⟩
  have HW59 := Lib.hid (HW58.out.ext hb)
  have B59 := Lib.hid (ext_trans B58.out hb)
  clear hb HW58 B58
  go_wp2_with fail
  refine (lat_ok N PN AN cN etx _ HW59.out 1 5 3 (by decide) (by decide)).mono ?_
  rintro r w60 ⟨rfl, hb⟩
  have HW60 := Lib.hid (HW59.out.ext hb)
  have B60 := Lib.hid (ext_trans B59.out hb)
  clear hb HW59 B59
  go_wp2_with fail
  refine (end_ok N PN AN cN etx _ HW60.out (x := 3) (y := 0) (by decide)).mono ?_
  rintro r w61 ⟨rfl, hb⟩
  have HW61 := Lib.hid (HW60.out.ext hb)
  have B61 := Lib.hid (ext_trans B60.out hb)
  clear hb HW60 B60
  go_wp2_with fail
  refine (lpos_any _ _ _).mono ?_
  rintro r w62 ⟨rfl, hb⟩
  have B62 := Lib.hid (ext_trans B61.out hb)
  clear hb B61
  go_wp2_with fail
  have hsl : Sl .u8 (w62.alloc (.cells #[.int .u8 255] 5)) (some ⟨w62.heap.size, 0, none⟩) 1 1 [255] := Sl.new w62 [255] 5 .u8 (by decide)
  have HB255 := Lib.hid hsl
  clear hsl
  refine (pnew_bad _ _ _ [255] _ HB255.out (by intro x hx; simp at hx; omega) (i := 0) (m := 0) (e := 10) (by decide) (by decide)).mono ?_
  rintro r w' ⟨rfl, rfl⟩
  have B63 := Lib.hid (ext_trans B62.out (below_alloc w62 (.cells #[.int .u8 255] 5)))
  clear HB255
  generalize w62.alloc (.cells #[.int .u8 255] 5) = V63 at *
  go_wp2_with fail
  have hsl : Sl .u8 (V63.alloc (.cells #[.int .u8 195] 5)) (some ⟨V63.heap.size, 0, none⟩) 1 1 [195] := Sl.new V63 [195] 5 .u8 (by decide)
  have HB195 := Lib.hid hsl
  clear hsl
  refine (pnew_bad _ _ _ [195] _ HB195.out (by intro x hx; simp at hx; omega) (i := 0) (m := 0) (e := 3) (by decide) (by decide)).mono ?_
  rintro r w' ⟨rfl, rfl⟩
  have B64 := Lib.hid (ext_trans B63.out (below_alloc V63 (.cells #[.int .u8 195] 5)))
  clear HB195
  generalize V63.alloc (.cells #[.int .u8 195] 5) = V64 at *
  go_wp2_with fail
  go_loopw [34, 35] (fun p t wr => ∃ (k : Nat) (q : Option Addr), p = .pointer q ∧ t = .int .i64 (k : Nat) ∧ k ≤ 2 ∧ Hid (NonM wr q) ∧ Hid (Below w.heap.size w wr)) (fun p t _ => 2 - (intOf t).toNat)
  case atStart => exact ⟨0, none, rfl, rfl, by omega, Lib.hid (.inl rfl), B64⟩
  case round =>
    obtain ⟨k, q, rfl, rfl, hk, hN, hB⟩ := hrel
    by_cases hk2 : k < 2
    · have i1 : (k : Int) < 2 := by omega
      go_wp2_with fail
      refine (lpos_any _ _ _).mono ?_
      rintro r w81 ⟨rfl, hb⟩
      have B81 := Lib.hid (ext_trans hB.out hb)
      have NN81 := Lib.hid (hN.out.ext hb)
      clear hb hB hN
      go_wp2_with fail
      refine (offset_non _ _ _ _ NN81.out).mono ?_
      rintro r w82 ⟨rfl, hb⟩
      have B82 := Lib.hid (ext_trans B81.out hb)
      have NN82 := Lib.hid (NN81.out.ext hb)
      clear hb B81 NN81
      go_wp2_with fail
      refine (pos_non _ _ _ NN82.out).mono ?_
      rintro r w83 ⟨rfl, hb⟩
      replace hb := ext_trans hb (below_alloc w83 (.cells #[.int .i64 0, .int .i64 0] 24))
      have B83 := Lib.hid (ext_trans B82.out hb)
      have NN83 := Lib.hid (NN82.out.ext hb)
      clear hb B82 NN82
      go_wp2_with fail
      refine (span_non _ _ _ _ _ _ NN83.out).mono ?_
      rintro r w84 ⟨rfl, hb⟩
      replace hb := ext_trans hb (below_alloc w84 (.cells #[.int .i64 0, .int .i64 0] 44))
      have B84 := Lib.hid (ext_trans B83.out hb)
      have NN84 := Lib.hid (NN83.out.ext hb)
      clear hb B83 NN83
      go_wp2_with fail
      refine (range_non _ _ _ _ NN84.out).mono ?_
      rintro r w85 ⟨rfl, hb⟩
      replace hb := ext_trans hb (below_alloc w85 (.cells #[.int .i64 0, .int .i64 0, .int .i64 0, .int .i64 0] 42))
      have B85 := Lib.hid (ext_trans B84.out hb)
      have NN85 := Lib.hid (NN84.out.ext hb)
      clear hb B84 NN84
      go_wp2_with fail
      refine (end_non _ _ NN85.out).mono ?_
      rintro r w86 ⟨rfl, hb⟩
      have B86 := Lib.hid (ext_trans B85.out hb)
      have NN86 := Lib.hid (NN85.out.ext hb)
      clear hb B85 NN85
      go_wp2_with fail
      refine (lpos_any _ _ _).mono ?_
      rintro r w87 ⟨rfl, hb⟩
      have B87 := Lib.hid (ext_trans B86.out hb)
      clear hb B86
      have hbn := below_alloc w87 (.cells #[.pointer none, .slice none 0 0] 74)
      have hnn : NonM (w87.alloc (.cells #[.pointer none, .slice none 0 0] 74)) (some ⟨w87.heap.size, 0, none⟩) := .inr ⟨_, rfl, by simp, (Duo.new w87 74 (.pointer none) (.slice none 0 0)).at1⟩
      have HNN := Lib.hid hnn
      have HBN := Lib.hid (ext_trans B87.out hbn)
      clear hbn hnn
      go_wp2_with fail
      go_roundw
      case rel => exact ⟨k + 1, _, rfl, by go_num, by omega, HNN, HBN⟩
      case measure => simp [intOf]; omega
    · obtain rfl : k = 2 := by omega
      rw [show (((2 : Nat) : Int)) = 2 from rfl]
      go_wp2_with fail
      refine (works_true _).mono ?_
      rintro r w90 ⟨rfl, hb⟩
      have B90 := Lib.hid (ext_trans hB.out hb)
      clear hb
      go_wp2_with fail
      go_ret
      exact ⟨rfl, B90.out⟩
end Go.Proofs.Ytfpgnnjkojpmdaa
