/-
  The walk of UnitsKnown.
-/
import Derived.Test.YtogljfblcbegbaaUl
import Derived.Test.YtogljfblcbegbaaWp
import Derived.Test.YtogljfblcbegbaaWt
namespace Go.Proofs.Ytogljfblcbegbaa
set_option linter.unusedVariables false
open Go.RowKit Go.ChangeShapes Go.WideShapes
open Utf Wd Wr We Wi Uw

def halves : List (List Int) := [[55357], [56832, 55357], [97, 55296, 97], [57343], [55296, 55296, 56320]]
def wants : List Int := [0, 1, 3, 3, 7, 8, 8, 8, 8, 8]
def all8 : List Int := [55296, 56320, 56319, 57343, 55295, 57344, 65535, 0]
theorem halves_short : ∀ l ∈ halves, l.length ≤ maxLen := by decide
theorem halves_are : ∀ l ∈ halves, Is16 l ∧ okB (ch l) = false ∧ l.length ≤ 3 := by unfold Is16; decide
theorem wants_at : ∀ k, k < 10 → wants[k]? = some (((ends chap k).1 : Nat) : Int) := by decide
theorem all8_ok : Is16 all8 ∧ okB (ch all8) = true ∧ encs (ch all8) = [240, 144, 128, 128, 244, 143, 191, 191, 237, 159, 191, 238, 128, 128, 239, 191, 191, 0] := by unfold Is16; decide

set_option maxRecDepth 1000000 in
set_option maxHeartbeats 3200000 in
theorem walk_UnitsKnown  (w : World)  :
    Calls Try.prog 13 #[] w fun e w' => e = .returned (.bool true) ∧ Below w.heap.size w w' := by
  obtain ⟨a16, aok, aenc⟩ := all8_ok
  have A16 := Lib.hid a16
  have AOK := Lib.hid (okB_true.1 aok)
  have AEN := Lib.hid aenc
  have CO := Lib.hid chap_ok
  clear a16 aok aenc
  go_enter Try.func13, Try.ntmps13
  go_wp2_with fail
  have R1 : Hid (Row .i64 (w.alloc (.cells #[.int .i64 0, .int .i64 1, .int .i64 3, .int .i64 3, .int .i64 7, .int .i64 8, .int .i64 8, .int .i64 8, .int .i64 8, .int .i64 8] 3)) (some ⟨w.heap.size, 0, none⟩) 10 wants) := Row.new w wants 3 .i64
  have C1 : Hid (Below w.heap.size w (w.alloc (.cells #[.int .i64 0, .int .i64 1, .int .i64 3, .int .i64 3, .int .i64 7, .int .i64 8, .int .i64 8, .int .i64 8, .int .i64 8, .int .i64 8] 3))) := below_alloc _ _
  generalize (w.alloc (.cells #[.int .i64 0, .int .i64 1, .int .i64 3, .int .i64 3, .int .i64 7, .int .i64 8, .int .i64 8, .int .i64 8, .int .i64 8, .int .i64 8] 3)) = W1 at *
  go_loopw [2] (fun ix wr => ∃ k : Nat, k ≤ 10 ∧ ix = .int .i64 k ∧ Below W1.heap.size W1 wr) (fun ix _ => 10 - (intOf ix).toNat)
  case atStart => exact ⟨0, by omega, rfl, Below.refl _ _⟩
  case round =>
    obtain ⟨k, hk, rfl, hbel⟩ := hrel
    have HBE := Lib.hid hbel
    clear hbel
    by_cases hk6 : k < 10
    · have hw := wants_at k hk6
      have hm : k ≤ 9223372036854775807 := by omega
      have i1 : (k : Int) < 10 := by omega
      have HW := Lib.hid hw
      clear hw
      go_wp2_with fail
      refine (chapter_any _).mono ?_
      rintro e w2 ⟨D2, rfl, s2, b2⟩
      have HB2 := Lib.hid (ext_trans HBE.out b2)
      have S2 := Lib.hid s2
      obtain ⟨b, off, x, e, hx, hcell, _⟩ := (R1.out.below HB2.out).look hk6
      obtain ⟨rfl, rfl⟩ : w.heap.size = b ∧ 0 = off := by injection e with e; injection e with e1 e2; exact ⟨e1, e2⟩
      rw [Nat.zero_add] at hcell
      rw [HW.out] at hx
      injection hx with hx
      subst hx
      clear s2 b2 e
      go_wp2_with fail
      refine (offset_txt _ _ _ _ _ CO.out S2.out k hm).mono ?_
      rintro e w' ⟨rfl, rfl⟩
      generalize (ends chap k).1 = y at *
      have d1 : ((y : Int) != (y : Int)) = false := by simp
      go_wp2
      go_roundw
      case rel => exact ⟨k + 1, by omega, by go_num, HB2.out⟩
      case measure => simp [intOf]; omega
    · obtain rfl : k = 10 := by omega
      rw [show ((10 : Nat) : Int) = 10 from rfl]
      have C2 := Lib.hid (ext_trans C1.out HBE.out)
      clear C1 HBE R1
      go_wp2_with fail
      have T2 : Hid (∀ j, j < 5 → ∃ A n l, ((((((wr.alloc (.cells #[.int .u16 55357] 31)).alloc (.cells #[.int .u16 56832, .int .u16 55357] 31)).alloc (.cells #[.int .u16 97, .int .u16 55296, .int .u16 97] 31)).alloc (.cells #[.int .u16 57343] 31)).alloc (.cells #[.int .u16 55296, .int .u16 55296, .int .u16 56320] 31)).alloc (.cells #[.slice (some ⟨wr.heap.size, 0, none⟩) 1 1, .slice (some ⟨wr.heap.size + 1, 0, none⟩) 2 2, .slice (some ⟨wr.heap.size + 1 + 1, 0, none⟩) 3 3, .slice (some ⟨wr.heap.size + 1 + 1 + 1, 0, none⟩) 1 1, .slice (some ⟨wr.heap.size + 1 + 1 + 1 + 1, 0, none⟩) 3 3] 27)).cell? ⟨wr.heap.size + 1 + 1 + 1 + 1 + 1, j, none⟩ = some (.slice A n n) ∧ Sl .u16 ((((((wr.alloc (.cells #[.int .u16 55357] 31)).alloc (.cells #[.int .u16 56832, .int .u16 55357] 31)).alloc (.cells #[.int .u16 97, .int .u16 55296, .int .u16 97] 31)).alloc (.cells #[.int .u16 57343] 31)).alloc (.cells #[.int .u16 55296, .int .u16 55296, .int .u16 56320] 31)).alloc (.cells #[.slice (some ⟨wr.heap.size, 0, none⟩) 1 1, .slice (some ⟨wr.heap.size + 1, 0, none⟩) 2 2, .slice (some ⟨wr.heap.size + 1 + 1, 0, none⟩) 3 3, .slice (some ⟨wr.heap.size + 1 + 1 + 1, 0, none⟩) 1 1, .slice (some ⟨wr.heap.size + 1 + 1 + 1 + 1, 0, none⟩) 3 3] 27)) A n n l ∧ (Is16 l ∧ okB (ch l) = false ∧ l.length ≤ 3)) := tbl_look (k := .u16) (e := 31) wr 27 halves halves_short _ halves_are
      have C3 : Hid (Below w.heap.size w ((((((wr.alloc (.cells #[.int .u16 55357] 31)).alloc (.cells #[.int .u16 56832, .int .u16 55357] 31)).alloc (.cells #[.int .u16 97, .int .u16 55296, .int .u16 97] 31)).alloc (.cells #[.int .u16 57343] 31)).alloc (.cells #[.int .u16 55296, .int .u16 55296, .int .u16 56320] 31)).alloc (.cells #[.slice (some ⟨wr.heap.size, 0, none⟩) 1 1, .slice (some ⟨wr.heap.size + 1, 0, none⟩) 2 2, .slice (some ⟨wr.heap.size + 1 + 1, 0, none⟩) 3 3, .slice (some ⟨wr.heap.size + 1 + 1 + 1, 0, none⟩) 1 1, .slice (some ⟨wr.heap.size + 1 + 1 + 1 + 1, 0, none⟩) 3 3] 27))) := ext_trans C2.out (ext_trans (tbl_below (k := .u16) (e := 31) halves wr) (below_alloc _ _))
      generalize ((((((wr.alloc (.cells #[.int .u16 55357] 31)).alloc (.cells #[.int .u16 56832, .int .u16 55357] 31)).alloc (.cells #[.int .u16 97, .int .u16 55296, .int .u16 97] 31)).alloc (.cells #[.int .u16 57343] 31)).alloc (.cells #[.int .u16 55296, .int .u16 55296, .int .u16 56320] 31)).alloc (.cells #[.slice (some ⟨wr.heap.size, 0, none⟩) 1 1, .slice (some ⟨wr.heap.size + 1, 0, none⟩) 2 2, .slice (some ⟨wr.heap.size + 1 + 1, 0, none⟩) 3 3, .slice (some ⟨wr.heap.size + 1 + 1 + 1, 0, none⟩) 1 1, .slice (some ⟨wr.heap.size + 1 + 1 + 1 + 1, 0, none⟩) 3 3] 27)) = W3 at *
      clear C2
      generalize wr.heap.size + 1 + 1 + 1 + 1 + 1 = O3 at *
      go_loopw [51] (fun ix wr => ∃ k : Nat, k ≤ 5 ∧ ix = .int .i64 k ∧ Below W3.heap.size W3 wr) (fun ix _ => 5 - (intOf ix).toNat)
      case atStart => exact ⟨0, by omega, rfl, Below.refl _ _⟩
      case round =>
        obtain ⟨k, hk, rfl, hbel⟩ := hrel
        have HBE := Lib.hid hbel
        clear hbel
        by_cases hk6 : k < 5
        · obtain ⟨A, n, l, hcell, hs, h16, hok, hl3⟩ := T2.out k hk6
          have hlt : O3 < W3.heap.size := lt_of_cell (p := ⟨O3, k, none⟩) hcell
          have hcell' : wr.cell? ⟨O3, k, none⟩ = some (.slice A n n) := (HBE.out.cell (p := ⟨O3, k, none⟩) hlt).trans hcell
          have HS := Lib.hid (hs.below HBE.out)
          have hn3 : n ≤ 3 := by rw [← hs.len]; exact hl3
          have H16 := Lib.hid h16
          have HOK := Lib.hid hok
          have i1 : (k : Int) < 5 := by omega
          clear hs h16 hok hcell
          go_wp2_with fail
          refine (text_no _ _ _ _ _ HS.out H16.out (by omega) HOK.out).mono ?_
          rintro e w2 ⟨rfl, b2⟩
          have HB3 := Lib.hid (ext_trans HBE.out b2)
          clear b2
          go_wp2
          go_roundw
          case rel => exact ⟨k + 1, by omega, by go_num, HB3.out⟩
          case measure => simp [intOf]; omega
        · obtain rfl : k = 5 := by omega
          have CC := Lib.hid (ext_trans C3.out HBE.out)
          clear C3 HBE T2
          go_wp2_with fail
          refine (text_ok _ _ _ all8 _ (show Sl .u16 (wr.alloc (.cells #[.int .u16 55296, .int .u16 56320, .int .u16 56319, .int .u16 57343, .int .u16 55295, .int .u16 57344, .int .u16 65535, .int .u16 0] 31)) (some ⟨wr.heap.size, 0, none⟩) 8 8 all8 from Sl.new wr all8 31 .u16 (by decide)) A16.out (by omega) AOK.out).mono ?_
          rintro e w2 ⟨v2, rfl, o2, b2⟩
          rw [AEN.out] at o2
          obtain ⟨A2, c2, rfl, t2, _⟩ := o2.sl
          rw [show ([240, 144, 128, 128, 244, 143, 191, 191, 237, 159, 191, 238, 128, 128, 239, 191, 191, 0] : List Int).length = 18 from rfl] at t2 ⊢
          have T2 := Lib.hid t2
          have C4 := Lib.hid (ext_trans CC.out (ext_trans (below_alloc _ _) b2))
          clear o2 t2 b2 CC
          go_wp2_with fail
          refine (offset_bad _ _ _ [195] _ (show Sl .u8 (w2.alloc (.cells #[.int .u8 195] 5)) (some ⟨w2.heap.size, 0, none⟩) 1 1 [195] from Sl.new w2 [195] 5 .u8 (by decide)) (by unfold IsB; decide) (-1) (show chk [195] = (0, 0, 3) by decide) (by decide)).mono ?_
          rintro e w' ⟨rfl, rfl⟩
          have C5 := Lib.hid (ext_trans C4.out (below_alloc w2 (.cells #[.int .u8 195] 5)))
          have T3 := Lib.hid (T2.out.alloc (.cells #[.int .u8 195] 5))
          generalize w2.alloc (.cells #[.int .u8 195] 5) = Y1 at *
          go_wp2_with fail
          refine (offset_bad _ _ _ [255] _ (show Sl .u8 (Y1.alloc (.cells #[.int .u8 255] 5)) (some ⟨Y1.heap.size, 0, none⟩) 1 1 [255] from Sl.new Y1 [255] 5 .u8 (by decide)) (by unfold IsB; decide) (-1) (show chk [255] = (0, 0, 10) by decide) (by decide)).mono ?_
          rintro e w' ⟨rfl, rfl⟩
          have C6 := Lib.hid (ext_trans C5.out (below_alloc Y1 (.cells #[.int .u8 255] 5)))
          have T4 := Lib.hid (T3.out.alloc (.cells #[.int .u8 255] 5))
          generalize Y1.alloc (.cells #[.int .u8 255] 5) = Y2 at *
          clear T2 T3 C4 C5
          go_wp2_with fail
          refine (offset_neg _ _ _ [] _ Chars.nil Sl.none_ (-1) (by decide)).mono ?_
          rintro e w' ⟨rfl, rfl⟩
          go_wp2_with fail
          refine (offset_txt _ _ _ [] _ Chars.nil Sl.none_ 5 (by decide)).mono ?_
          rintro e w' ⟨rfl, rfl⟩
          rw [show ends [] 5 = (0, 0) from rfl]
          go_wp2_with fail
          refine (of_txt _ _ _ [] _ Chars.nil Sl.none_).mono ?_
          rintro e w' ⟨rfl, rfl⟩
          rw [show (uns []).length = 0 from rfl]
          go_wp2_with fail
          refine (works_true _).mono ?_
          rintro e w5 ⟨rfl, b5⟩
          have C7 := Lib.hid (ext_trans C6.out b5)
          have T5 := Lib.hid (T4.out.below b5)
          clear C6 T4 b5
          go_wp2_with fail
          refine (eq_any _ _ _ _ _ _ [240, 144, 128, 128, 244, 143, 191, 191, 237, 159, 191, 238, 128, 128, 239, 191, 191, 0] [240, 144, 128, 128, 244, 143, 191, 191, 237, 159, 191, 238, 128, 128, 239, 191, 191, 0] _ (T5.out.alloc (.cells #[.int .u8 240, .int .u8 144, .int .u8 128, .int .u8 128, .int .u8 244, .int .u8 143, .int .u8 191, .int .u8 191, .int .u8 237, .int .u8 159, .int .u8 191, .int .u8 238, .int .u8 128, .int .u8 128, .int .u8 239, .int .u8 191, .int .u8 191, .int .u8 0] 5)).row (show Row .u8 (w5.alloc (.cells #[.int .u8 240, .int .u8 144, .int .u8 128, .int .u8 128, .int .u8 244, .int .u8 143, .int .u8 191, .int .u8 191, .int .u8 237, .int .u8 159, .int .u8 191, .int .u8 238, .int .u8 128, .int .u8 128, .int .u8 239, .int .u8 191, .int .u8 191, .int .u8 0] 5)) (some ⟨w5.heap.size, 0, none⟩) 18 [240, 144, 128, 128, 244, 143, 191, 191, 237, 159, 191, 238, 128, 128, 239, 191, 191, 0] from Row.new w5 [240, 144, 128, 128, 244, 143, 191, 191, 237, 159, 191, 238, 128, 128, 239, 191, 191, 0] 5 .u8) (by unfold maxLen; omega)).mono ?_
          rintro e w6 ⟨rfl, q, rfl⟩
          rw [show decide (([240, 144, 128, 128, 244, 143, 191, 191, 237, 159, 191, 238, 128, 128, 239, 191, 191, 0] : List Int) = [240, 144, 128, 128, 244, 143, 191, 191, 237, 159, 191, 238, 128, 128, 239, 191, 191, 0]) = true from decide_eq_true rfl]
          go_wp2
          go_ret
          exact ⟨rfl, below_drewN (ext_trans C7.out (below_alloc _ _)) q⟩
end Go.Proofs.Ytogljfblcbegbaa
