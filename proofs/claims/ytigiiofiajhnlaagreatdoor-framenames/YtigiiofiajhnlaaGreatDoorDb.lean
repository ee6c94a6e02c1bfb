/-
  What the document's Run, Parse of layer 5 compute.
-/
import Derived.Test.YtigiiofiajhnlaaGreatDoorDa
namespace Go.Proofs.YtigiiofiajhnlaaGreatDoor
set_option linter.unusedVariables false
open Go.RowKit
namespace Db
open Wd We Dm Da

set_option maxHeartbeats 400000 in
theorem digit_any (x : Int) (w : World) (hx : 0 ≤ x ∧ x ≤ 255) : Calls Tryz.prog 86 #[.int .u8 x] w fun e w' => e = .returned (.bool (decide (48 ≤ x ∧ x ≤ 57))) ∧ w = w' := by
  by_cases h1 : 48 ≤ x
  · by_cases h2 : x ≤ 57
    · rw [decide_eq_true (show 48 ≤ x ∧ x ≤ 57 from ⟨h1, h2⟩)]
      go_enter Tryz.func86, Tryz.ntmps86
      go_wp2; go_ret; exact ⟨rfl, rfl⟩
    · rw [decide_eq_false (show ¬ (48 ≤ x ∧ x ≤ 57) by omega)]
      go_enter Tryz.func86, Tryz.ntmps86
      go_wp2; go_ret; exact ⟨rfl, rfl⟩
  · rw [decide_eq_false (show ¬ (48 ≤ x ∧ x ≤ 57) by omega)]
    go_enter Tryz.func86, Tryz.ntmps86
    go_wp2; go_ret; exact ⟨rfl, rfl⟩

set_option maxHeartbeats 1600000 in
theorem rrun_any (A : Option Addr) (n cp : Nat) (l : List Int) (i : Int) (w : World) (s : Sl .u8 w A n cp l) (hb : IsB l) :
    Calls Tryz.prog 65 #[.slice A n cp, .int .i64 i] w fun e w' => e = .returned (.int .i64 (rnAt l i)) ∧ w = w' := by
  have hmax : n ≤ 9223372036854775807 := by have := s.max; have := s.le; unfold maxLen at *; omega
  have hlen := s.len
  have S := Lib.hid s
  have HB := Lib.hid hb
  have HL := Lib.hid hlen
  clear s hb hlen
  by_cases h0 : i < 0
  · rw [rnAt_out (.inl h0)]
    have h0' : ¬ 0 ≤ i := by omega
    go_enter Tryz.func65, Tryz.ntmps65
    go_wp2
    go_loop [5, 6] (fun v ix => v = .int .i64 0 ∧ ix = .int .i64 i) (fun _ _ => 0)
    case atStart => exact ⟨rfl, rfl⟩
    case round =>
      obtain ⟨rfl, rfl⟩ := hrel
      go_wp2
      go_ret; exact ⟨rfl, rfl⟩
  · obtain ⟨p, rfl⟩ := Int.eq_ofNat_of_zero_le (a := i) (by omega)
    go_enter Tryz.func65, Tryz.ntmps65
    go_wp2
    go_loop [5, 6] (fun v ix => ∃ k : Nat, (k = 0 ∨ p + k ≤ n) ∧ v = .int .i64 k ∧ ix = .int .i64 ((p + k : Nat) : Int) ∧ Ds ((l.drop p).take k)) (fun _ ix => n - (intOf ix).toNat)
    case atStart => exact ⟨0, .inl rfl, rfl, rfl, by intro x hx; simp at hx⟩
    case round =>
      obtain ⟨k, hk, rfl, rfl, hd⟩ := hrel
      have HD := Lib.hid hd
      clear hd
      by_cases hkn : p + k < n
      · obtain ⟨b1, o1, x, rfl, hx, hcx, _⟩ := S.out.row.look hkn
        have hx' : (l.drop p)[k]? = some x := by rw [List.getElem?_drop]; exact hx
        have HX := Lib.hid hx'
        have hxb := HB.out.at_ hx
        clear hx hx' hk
        have i0 : 0 ≤ ((p + k : Nat) : Int) := by omega
        have i1 : ((p + k : Nat) : Int) < (n : Int) := by omega
        by_cases hdg : 48 ≤ x ∧ x ≤ 57
        · go_wp2_with fail
          refine (digit_any _ _ hxb).mono ?_
          rintro e w' ⟨rfl, rfl⟩
          rw [decide_eq_true hdg]
          go_wp2
          go_round
          case rel => exact ⟨k + 1, .inr (by omega), by go_num, by go_num, HD.out.take_next HX.out hdg⟩
          case measure => simp [intOf]; omega
        · go_wp2_with fail
          refine (digit_any _ _ hxb).mono ?_
          rintro e w' ⟨rfl, rfl⟩
          rw [decide_eq_false hdg]
          go_wp2
          go_ret
          refine ⟨ret1 ?_, rfl⟩
          rw [rnAt_in (by rw [HL.out]; omega), rn_stop HD.out HX.out hdg]
          rfl
      · have i0 : 0 ≤ ((p + k : Nat) : Int) := by omega
        have i1 : ¬ ((p + k : Nat) : Int) < (n : Int) := by omega
        have hr : rnAt l (p : Int) = k := by
          rcases hk with rfl | hk
          · exact rnAt_end (by rw [HL.out]; omega)
          · have h1 := HD.out
            rw [List.take_of_length_le (by rw [List.length_drop, HL.out]; omega)] at h1
            by_cases hp : p < n
            · rw [rnAt_in (by rw [HL.out]; exact hp), rn_all h1, List.length_drop, HL.out]; omega
            · rw [rnAt_end (by rw [HL.out]; omega)]; omega
        have HR := Lib.hid hr
        clear hr hk
        go_wp2
        go_ret
        exact ⟨by rw [HR.out]; rfl, rfl⟩

set_option maxHeartbeats 1600000 in
theorem rparse_any (A : Option Addr) (n cp : Nat) (l : List Int) (m : Int) (w : World) (s : Sl .u8 w A n cp l) (hb : IsB l) (hm : m ≤ 9223372036854775807) :
    Calls Tryz.prog 50 #[.slice A n cp, .int .i64 m] w fun e w' => e = .returned (.tuple #[.int .i64 (ps l m).1, .int .i64 (ps l m).2]) ∧ w = w' := by
  have hmax : n ≤ 9223372036854775807 := by have := s.max; have := s.le; unfold maxLen at *; omega
  have hlen := s.len
  have S := Lib.hid s
  have HB := Lib.hid hb
  have HL := Lib.hid hlen
  clear s hb hlen
  by_cases h0 : m < 0
  · rw [ps_neg h0]
    go_enter Tryz.func50, Tryz.ntmps50
    go_wp2; go_ret2; exact ⟨rfl, rfl⟩
  · by_cases h1 : n = 0
    · subst h1
      rw [ps_bad (by omega) (.inl (List.eq_nil_of_length_eq_zero HL.out))]
      go_enter Tryz.func50, Tryz.ntmps50
      go_wp2; go_ret2; exact ⟨rfl, rfl⟩
    · have hne : l ≠ [] := by rintro rfl; exact h1 HL.out.symm
      have HR := Lib.hid (rnAt_zero hne)
      have HN := Lib.hid hne
      clear hne
      have h1' : ((n : Int) == 0) = false := by simp; omega
      by_cases h2 : rn l < n
      · rw [ps_bad (by omega) (.inr (by rw [HL.out]; exact h2))]
        have d2 : ((rn l : Int) != (n : Int)) = true := by simp; omega
        go_enter Tryz.func50, Tryz.ntmps50
        go_wp2_with fail
        refine (rrun_any _ _ _ _ _ _ S.out HB.out).mono ?_
        rintro e w' ⟨rfl, rfl⟩
        rw [HR.out]
        go_wp2; go_ret2; exact ⟨rfl, rfl⟩
      · have hd : Ds l := ds_of_rn (by have := rn_le l; rw [HL.out] at this ⊢; omega)
        have hrn : rn l = n := by rw [rn_all hd]; exact HL.out
        have HD := Lib.hid hd
        have HRN := Lib.hid hrn
        clear hd hrn
        have d2 : ((n : Int) != (n : Int)) = false := by simp
        go_enter Tryz.func50, Tryz.ntmps50
        go_wp2_with fail
        refine (rrun_any _ _ _ _ _ _ S.out HB.out).mono ?_
        rintro e w' ⟨rfl, rfl⟩
        rw [HR.out, HRN.out]
        go_wp2
        go_loop [6, 7] (fun v ix => ∃ k : Nat, k ≤ n ∧ ix = .int .i64 k ∧ v = .int .i64 (vl (l.take k)) ∧ vl (l.take k) ≤ m) (fun _ ix => n - (intOf ix).toNat)
        case atStart => exact ⟨0, Nat.zero_le _, rfl, rfl, by simp [vl]; omega⟩
        case round =>
          obtain ⟨k, hk, rfl, rfl, hv⟩ := hrel
          by_cases hkn : k < n
          · obtain ⟨b1, o1, x, rfl, hx, hcx, _⟩ := S.out.row.look hkn
            have HX := Lib.hid hx
            have hxb := HD.out x (List.mem_of_getElem? hx)
            have hpos := vl_pos (HD.out.take k)
            have HV := Lib.hid (vl_next hx)
            clear hx
            have i1 : (k : Int) < (n : Int) := by omega
            generalize hg : vl (l.take k) = v at *
            have HG := Lib.hid hg
            clear hg
            by_cases hf : v * 10 + (x - 48) ≤ m
            · have t1 : ¬ m / 10 < v := by omega
              by_cases hq : v = m / 10
              · have t2 : (v == m / 10) = true := by simpa using hq
                have t3 : ¬ m % 10 < x - 48 := by omega
                have HQ := Lib.hid hq
                clear hq
                go_wp2
                go_round
                case rel => exact ⟨k + 1, by omega, by go_num, by rw [HV.out], by rw [HV.out]; exact hf⟩
                case measure => simp [intOf]; omega
              · have t2 : (v == m / 10) = false := by simpa using hq
                go_wp2
                go_round
                case rel => exact ⟨k + 1, by omega, by go_num, by rw [HV.out], by rw [HV.out]; exact hf⟩
                case measure => simp [intOf]; omega
            · have hend : ps l m = (0, 5) := by
                refine ps_over (by omega) HN.out HD.out ?_
                have := vl_mono HD.out (k + 1)
                rw [HV.out] at this
                omega
              have HE := Lib.hid hend
              clear hend
              by_cases hq : m / 10 < v
              · go_wp2
                go_ret2
                exact ⟨pair1 HE.out.symm, rfl⟩
              · have hq2 : v = m / 10 := by omega
                have t2 : (v == m / 10) = true := by simpa using hq2
                have t3 : m % 10 < x - 48 := by omega
                clear hq2
                go_wp2
                go_ret2
                exact ⟨pair1 HE.out.symm, rfl⟩
          · obtain rfl : k = n := by omega
            rw [List.take_of_length_le (by rw [HL.out]; exact Nat.le_refl _)] at hv ⊢
            go_wp2
            go_ret2
            exact ⟨pair1 (ps_ok (by omega) HN.out HD.out hv).symm, rfl⟩
end Db
end Go.Proofs.YtigiiofiajhnlaaGreatDoor
