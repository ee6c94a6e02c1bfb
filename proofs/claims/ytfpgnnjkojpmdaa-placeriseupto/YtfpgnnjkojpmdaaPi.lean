/-
  What the statements' helpers of layer 4 do: chapter, works, made.
-/
import Derived.Test.YtfpgnnjkojpmdaaPh
namespace Go.Proofs.Ytfpgnnjkojpmdaa
set_option linter.unusedVariables false
set_option linter.unusedSimpArgs false
open Go.RowKit Go.Shelf
namespace Pc
open Utf Wd Wr We Wi Lm Lc Uw

def ptx : List Int := [97, 228, 128512, 10, 98]
theorem ptx_ok : Chars ptx := okB_true.1 (by decide)
theorem ptx_enc : encs ptx = [97, 195, 164, 240, 159, 152, 128, 10, 98] := by decide
theorem ptx_few : ((Lm.ends 0 (encs ptx)).length + 1) * 16 ≤ 140737488355328 := by decide

set_option maxRecDepth 100000 in
set_option maxHeartbeats 800000 in
theorem lchapter_any (w : World) : Calls Try.prog 37 #[] w fun e w' => ∃ A, e = .returned (.slice A 9 9) ∧ Sl .u8 w' A 9 9 (encs ptx) ∧ Below w.heap.size w w' := by
  have hsl : Sl .u8 (w.alloc (.cells #[.int .u8 97, .int .u8 195, .int .u8 164, .int .u8 240, .int .u8 159, .int .u8 152, .int .u8 128, .int .u8 10, .int .u8 98] 5)) (some ⟨w.heap.size, 0, none⟩) 9 9 (encs ptx) := by
    rw [ptx_enc]; exact Sl.new w [97, 195, 164, 240, 159, 152, 128, 10, 98] 5 .u8 (by decide)
  have HS := Lib.hid hsl
  have B := Lib.hid (below_alloc w (.cells #[.int .u8 97, .int .u8 195, .int .u8 164, .int .u8 240, .int .u8 159, .int .u8 152, .int .u8 128, .int .u8 10, .int .u8 98] 5))
  clear hsl
  go_enter Try.func37, Try.ntmps37
  go_wp2_with fail
  go_ret
  exact ⟨_, rfl, HS.out, B.out⟩

set_option maxHeartbeats 800000 in
theorem made_ok (A : Option Addr) (n c : Nat) (cs : List Int) (w : World) (hc : Chars cs) (s : Sl .u8 w A n c (encs cs)) (hn : ((Lm.ends 0 (encs cs)).length + 1) * 16 ≤ 140737488355328) (hn2 : n ≤ 140737488355328) :
    Calls Try.prog 27 #[.slice A n c] w fun r w' => ∃ M P A' c', r = .returned (.pointer (some ⟨M, 0, none⟩)) ∧ Mp w' M P A' c' cs ∧ Below w.heap.size w w' := by
  have S := Lib.hid s
  have HC := Lib.hid hc
  clear s hc
  go_enter Try.func27, Try.ntmps27
  go_wp2_with fail
  refine (pnew_ok _ _ _ _ _ HC.out S.out hn hn2).mono ?_
  rintro r w1 ⟨M, P, A', c', rfl, hM, hb⟩
  have HM := Lib.hid hM
  have B := Lib.hid hb
  clear hM hb
  go_wp2_with fail
  go_ret
  exact ⟨_, _, _, _, rfl, HM.out, B.out⟩
set_option maxHeartbeats 800000 in
theorem made_bad (A : Option Addr) (n c : Nat) (b : List Int) (w : World) (s : Sl .u8 w A n c b) (hb : IsB b) {i m : Nat} {e : Int} (h : chk b = (i, m, e)) (he : e ≠ 0) :
    Calls Try.prog 27 #[.slice A n c] w fun r w' => r = .returned (.pointer none) ∧ w = w' := by
  have S := Lib.hid s
  have K := Lib.hid h
  have d : (e != 0) = true := by simpa using he
  clear s h
  go_enter Try.func27, Try.ntmps27
  go_wp2_with fail
  refine (pnew_bad _ _ _ _ _ S.out hb K.out he).mono ?_
  rintro r w1 ⟨rfl, rfl⟩
  go_wp2_with fail
  go_ret
  exact ⟨rfl, rfl⟩

set_option maxRecDepth 100000 in
set_option maxHeartbeats 3200000 in
theorem works_true (w : World) : Calls Try.prog 16 #[] w fun e w' => e = .returned (.bool true) ∧ Below w.heap.size w w' := by
  go_enter Try.func16, Try.ntmps16
  go_wp2_with fail
  refine (lchapter_any _).mono ?_
  rintro e w1 ⟨A, rfl, hs, hb⟩
  have S := Lib.hid hs
  have B0 := Lib.hid hb
  clear hs hb
  go_wp2_with fail
  refine (pnew_ok _ _ _ _ _ ptx_ok S.out ptx_few (by decide)).mono ?_
  rintro r w1 ⟨M, P, A', c', rfl, hM, hb⟩
  have H0 := Lib.hid hM
  have B1 := Lib.hid (ext_trans B0.out hb)
  clear hM hb B0 S
  go_wp2_with fail
  refine (lat_ok M P A' c' ptx _ H0.out 0 0 0 (by decide) (by decide)).mono ?_
  rintro r w2 ⟨rfl, hb⟩
  have H2 := Lib.hid (H0.out.ext hb)
  have B2 := Lib.hid (ext_trans B1.out hb)
  clear hb H0 B1
  go_wp2_with fail
  refine (lat_ok M P A' c' ptx _ H2.out 0 2 3 (by decide) (by decide)).mono ?_
  rintro r w3 ⟨rfl, hb⟩
  have H3 := Lib.hid (H2.out.ext hb)
  have B3 := Lib.hid (ext_trans B2.out hb)
  clear hb H2 B2
  go_wp2_with fail
  refine (lat_ok M P A' c' ptx _ H3.out 0 3 3 (by decide) (by decide)).mono ?_
  rintro r w4 ⟨rfl, hb⟩
  have H4 := Lib.hid (H3.out.ext hb)
  have B4 := Lib.hid (ext_trans B3.out hb)
  clear hb H3 B3
  go_wp2_with fail
  refine (lat_ok M P A' c' ptx _ H4.out 0 4 7 (by decide) (by decide)).mono ?_
  rintro r w5 ⟨rfl, hb⟩
  have H5 := Lib.hid (H4.out.ext hb)
  have B5 := Lib.hid (ext_trans B4.out hb)
  clear hb H4 B4
  go_wp2_with fail
  refine (lat_ok M P A' c' ptx _ H5.out 0 9 7 (by decide) (by decide)).mono ?_
  rintro r w6 ⟨rfl, hb⟩
  have H6 := Lib.hid (H5.out.ext hb)
  have B6 := Lib.hid (ext_trans B5.out hb)
  clear hb H5 B5
  go_wp2_with fail
  refine (lat_ok M P A' c' ptx _ H6.out 1 1 9 (by decide) (by decide)).mono ?_
  rintro r w7 ⟨rfl, hb⟩
  have H7 := Lib.hid (H6.out.ext hb)
  have B7 := Lib.hid (ext_trans B6.out hb)
  clear hb H6 B6
  go_wp2_with fail
  refine (lat_ok M P A' c' ptx _ H7.out 7 0 9 (by decide) (by decide)).mono ?_
  rintro r w8 ⟨rfl, hb⟩
  have H8 := Lib.hid (H7.out.ext hb)
  have B8 := Lib.hid (ext_trans B7.out hb)
  clear hb H7 B7
  go_wp2_with fail
  refine (lof_ok M P A' c' ptx _ H8.out 2 0 1 (by decide) (by decide)).mono ?_
  rintro r w9 ⟨rfl, hb⟩
  have H9 := Lib.hid (H8.out.ext hb)
  have B9 := Lib.hid (ext_trans B8.out hb)
  clear hb H8 B8
  go_wp2_with fail
  refine (lof_ok M P A' c' ptx _ H9.out 5 0 2 (by decide) (by decide)).mono ?_
  rintro r w10 ⟨rfl, hb⟩
  have H10 := Lib.hid (H9.out.ext hb)
  have B10 := Lib.hid (ext_trans B9.out hb)
  clear hb H9 B9
  go_wp2_with fail
  refine (lof_ok M P A' c' ptx _ H10.out 7 0 4 (by decide) (by decide)).mono ?_
  rintro r w11 ⟨rfl, hb⟩
  have H11 := Lib.hid (H10.out.ext hb)
  have B11 := Lib.hid (ext_trans B10.out hb)
  clear hb H10 B10
  go_wp2_with fail
  refine (lof_ok M P A' c' ptx _ H11.out 9 1 1 (by decide) (by decide)).mono ?_
  rintro r w12 ⟨rfl, hb⟩
  have H12 := Lib.hid (H11.out.ext hb)
  have B12 := Lib.hid (ext_trans B11.out hb)
  clear hb H11 B11
  go_wp2_with fail
  refine (end_ok M P A' c' ptx _ H12.out (x := 1) (y := 1) (by decide)).mono ?_
  rintro r w13 ⟨rfl, hb⟩
  have H13 := Lib.hid (H12.out.ext hb)
  have B13 := Lib.hid (ext_trans B12.out hb)
  clear hb H12 B12
  go_wp2_with fail
  refine (lpos_any _ _ _).mono ?_
  rintro r w14 ⟨rfl, hb⟩
  have BB := Lib.hid (ext_trans B13.out hb)
  clear hb
  go_wp2_with fail
  go_ret
  exact ⟨rfl, BB.out⟩
end Pc
end Go.Proofs.Ytfpgnnjkojpmdaa
