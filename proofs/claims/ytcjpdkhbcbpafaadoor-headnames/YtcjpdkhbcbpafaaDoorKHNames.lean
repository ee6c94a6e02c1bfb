/-
  The walk of HeadNames.
-/
import Derived.Test.YtcjpdkhbcbpafaaDoorKHParses
import Derived.Test.YtcjpdkhbcbpafaaDoorKHMakes
import Derived.Test.YtcjpdkhbcbpafaaDoorKHLong
import Derived.Test.YtcjpdkhbcbpafaaDoorHj
import Derived.Deep.RegionWith
import Derived.Deep.QuietTactic
import Derived.BigQuiet
namespace Go.Proofs.YtcjpdkhbcbpafaaDoor
set_option linter.unusedVariables false
open Go.RowKit Go.ChangeShapes Go.WideShapes
open Wd We Dm Dc Dd Hm Hb Hc Hd He Hg Hf Hh Hi Hj

set_option maxRecDepth 100000 in
set_option maxHeartbeats 3200000 in
theorem walk_HeadNames  (w : World) (tab : It.Tab w) (env : Hb.Env w) :
    Calls Tryd.prog 10 #[] w fun e w' => e = .returned (.bool true) ∧ Below w.heap.size w w' := by
  have T := Lib.hid tab
  have E := Lib.hid env
  clear tab env
  go_enter Tryd.func10, Tryd.ntmps10
  go_wp2
  go_loopw [2] (fun ix wr => ∃ i : Nat, i ≤ 34 ∧ ix = .int .i64 i ∧ TbS w.heap.size 34 wr ∧ Below w.heap.size w wr) (fun ix _ => 34 - (intOf ix).toNat)
  case atStart =>
    refine ⟨0, by omega, rfl, tbS_new w _ _ ?h1 ?h3, (Below.refl _ _).alloc (Nat.le_refl _) _⟩
    case h1 => decide +kernel
    case h3 => rfl
  case round =>
    obtain ⟨i, hi, rfl, hS, hb⟩ := hrel
    by_cases hi34 : i < 34
    · have i1 : (i : Int) < 34 := by omega
      have HS := Lib.hid hS
      have HB := Lib.hid hb
      clear hS hb
      go_wp2
      go_loopw [3] (fun kx W => ∃ k : Nat, k ≤ 1001 ∧ kx = .int .i64 k ∧ TbS w.heap.size 34 W ∧ Below w.heap.size w W) (fun kx _ => 1001 - (intOf kx).toNat)
      case atStart => exact ⟨0, by omega, rfl, HS.out, HB.out⟩
      case round =>
        obtain ⟨k, hk, rfl, hS, hb⟩ := hrel
        have HS2 := Lib.hid hS
        have HB2 := Lib.hid hb
        obtain ⟨s, hcs, hss⟩ := hS i hi34
        clear hS hb
        have hl1 := lt_of_cell hcs
        have hsz0 : s.size ≤ 9223372036854775807 := by omega
        generalize hZ : s.size = Z at *
        by_cases hks : k ≤ Z
        · have i2 : (k : Int) ≤ (Z : Int) := by omega
          have kc := bytes_any
          have hx : (s.extract 0 k).size = k := by rw [ByteArray.size_extract]; omega
          have tS := sl_bytes wr (s.extract 0 k) (by rw [hx]; omega)
          rw [hx] at tS
          have hbS := Lib.bytesWorld_below wr 5 (s.extract 0 k)
          have eS := E.out.below (ext_trans HB2.out hbS)
          have CON := Lib.hid (core_HeadParses _ _ _ _ _ tS (lof_byte _) (by omega) eS)
          have HBS := Lib.hid hbS
          clear tS hbS eS
          go_wp2_with fail
          refine CON.out.mono ?_
          rintro e w5 ⟨rfl, hb5⟩
          have HB5 := Lib.hid (ext_trans HBS.out hb5)
          clear hb5
          go_wp2
          go_roundw
          case rel => exact ⟨k + 1, by omega, by go_num, HS2.out.below HB5.out, ext_trans HB2.out HB5.out⟩
          case measure => simp [intOf]; omega
        · have i2 : ¬ (k : Int) ≤ (Z : Int) := by omega
          go_wp2
          go_roundw
          case rel => exact ⟨i + 1, by omega, by go_num, HS2.out, HB2.out⟩
          case measure => simp [intOf]; omega
    · have HB := Lib.hid hb
      have E2 := Lib.hid (E.out.below hb)
      have T2 := Lib.hid (T.out.below hb)
      have i1 : ¬ (i : Int) < 34 := by omega
      have hszB := hb.size
      clear hS hb
      go_wp2
      have hI : TbI wr.heap.size 8 (wr.alloc (.cells #[.int .i64 0, .int .i64 1, .int .i64 9, .int .i64 10, .int .i64 65535, .int .i64 65536, .int .i64 65537, .int .i64 (-1)] 3)) := tbI_new wr _ _ (by decide +kernel) rfl
      have HI := Lib.hid hI
      have HBI := Lib.hid (ext_trans HB.out (below_alloc wr (.cells #[.int .i64 0, .int .i64 1, .int .i64 9, .int .i64 10, .int .i64 65535, .int .i64 65536, .int .i64 65537, .int .i64 (-1)] 3)))
      clear hI
      go_loopw [5] (fun ix W => ∃ k : Nat, k ≤ 8 ∧ ix = .int .i64 k ∧ TbI wr.heap.size 8 W ∧ Below w.heap.size w W) (fun ix _ => 8 - (intOf ix).toNat)
      case atStart => exact ⟨0, by omega, rfl, HI.out, HBI.out⟩
      case round =>
        obtain ⟨k, hk, rfl, hI, hb⟩ := hrel
        have HI3 := Lib.hid hI
        have HB3 := Lib.hid hb
        by_cases hk8 : k < 8
        · have i3 : (k : Int) < 8 := by omega
          obtain ⟨m, hcm, hm0, hm1⟩ := hI k hk8
          clear hI hb
          have E3 := Lib.hid (E.out.below HB3.out)
          have T3 := Lib.hid (T.out.below HB3.out)
          go_wp2_with fail
          refine (core_HeadMakes _ _ T3.out E3.out).mono ?_
          rintro e w5 ⟨rfl, hb5⟩
          have HI5 := Lib.hid (HI3.out.below hb5)
          have HB5 := Lib.hid (ext_trans HB3.out hb5)
          clear hb5
          go_wp2
          go_roundw
          case rel => exact ⟨k + 1, by omega, by go_num, HI5.out, HB5.out⟩
          case measure => simp [intOf]; omega
        · have i3 : ¬ (k : Int) < 8 := by omega
          clear hI hb
          go_wp2
          go_loopw [6] (fun ix W => ∃ k : Nat, 480 ≤ k ∧ k ≤ 500 ∧ ix = .int .i64 k ∧ Below w.heap.size w W) (fun ix _ => 500 - (intOf ix).toNat)
          case atStart => exact ⟨480, by omega, by omega, rfl, HB3.out⟩
          case round =>
            obtain ⟨k4, hk4, hk5, rfl, hb⟩ := hrel
            have E4 := Lib.hid (E.out.below hb)
            have HB4 := Lib.hid hb
            clear hb
            by_cases hk6 : k4 < 500
            · have i4 : (k4 : Int) < 500 := by omega
              go_wp2_with fail
              refine (core_HeadLong _ (by omega) _ E4.out).mono ?_
              rintro e w5 ⟨rfl, hb5⟩
              have HB5 := Lib.hid (ext_trans HB4.out hb5)
              clear hb5
              go_wp2
              go_roundw
              case rel => exact ⟨k4 + 1, by omega, by omega, by go_num, HB5.out⟩
              case measure => simp [intOf]; omega
            · have i4 : ¬ (k4 : Int) < 500 := by omega
              go_wp2_with fail
              refine (awake_ok _ E4.out).mono ?_
              rintro e w5 ⟨rfl, hb5⟩
              have HB5 := Lib.hid (ext_trans HB4.out hb5)
              have E5 := Lib.hid (E4.out.below hb5)
              clear hb5
              obtain ⟨w6, km6, t6, hb6⟩ := mk511 w5
              have T6 := Lib.hid t6
              have HB6 := Lib.hid (ext_trans HB5.out hb6)
              have E6 := Lib.hid (E5.out.below hb6)
              clear t6 hb6
              go_wp2_with fail
              refine (core_HeadParses _ _ _ _ _ T6.out zeros511 (by omega) E6.out).mono ?_
              rintro e w7 ⟨rfl, hb7⟩
              have HB7 := Lib.hid (ext_trans HB6.out hb7)
              have E7 := Lib.hid (E6.out.below hb7)
              clear hb7
              obtain ⟨w8, km8, t8, hb8⟩ := mk512 w7
              have T8 := Lib.hid t8
              have HB8 := Lib.hid (ext_trans HB7.out hb8)
              have E8 := Lib.hid (E7.out.below hb8)
              clear t8 hb8
              go_wp2_with fail
              refine (core_HeadParses _ _ _ _ _ T8.out zeros512 (by omega) E8.out).mono ?_
              rintro e w9 ⟨rfl, hb9⟩
              have HB9 := Lib.hid (ext_trans HB8.out hb9)
              have E9 := Lib.hid (E8.out.below hb9)
              clear hb9
              go_wp2_with fail
              refine (core_HeadParses _ _ _ [] _ Sl.none_ (fun x hx => by simp at hx) (by omega) E9.out).mono ?_
              rintro e w10 ⟨rfl, hb10⟩
              go_wp2
              go_ret
              exact ⟨rfl, ext_trans HB9.out hb10⟩
end Go.Proofs.YtcjpdkhbcbpafaaDoor
