/-
  What Run, Parse of package digits compute.
-/
import Derived.Test.YtigiiofiajhnlaaGreatDoorWe
import Derived.Test.YtigiiofiajhnlaaGreatDoorWz
import Derived.Test.YtigiiofiajhnlaaGreatDoorDm
namespace Go.Proofs.YtigiiofiajhnlaaGreatDoor
set_option linter.unusedVariables false
open Go.RowKit
namespace Da
open Wd We Dm

set_option maxHeartbeats 400000 in
theorem stop_any (x : Int) (w : World) (hx : 0 ≤ x ∧ x ≤ 255) : Calls Tryz.prog 92 #[.int .u8 x] w fun e w' => e = .returned (.bool (decide (¬ (48 ≤ x ∧ x ≤ 57)))) ∧ w = w' := by
  by_cases h1 : x < 48
  · rw [show decide (¬ (48 ≤ x ∧ x ≤ 57)) = true from decide_eq_true (by omega)]
    go_enter Tryz.func92, Tryz.ntmps92
    go_wp2; go_ret; exact ⟨rfl, rfl⟩
  · by_cases h2 : x ≤ 57
    · rw [show decide (¬ (48 ≤ x ∧ x ≤ 57)) = false from decide_eq_false (by omega)]
      have d : ¬ 57 < x := by omega
      go_enter Tryz.func92, Tryz.ntmps92
      go_wp2; go_ret; exact ⟨rfl, rfl⟩
    · rw [show decide (¬ (48 ≤ x ∧ x ≤ 57)) = true from decide_eq_true (by omega)]
      go_enter Tryz.func92, Tryz.ntmps92
      go_wp2; go_ret; exact ⟨rfl, rfl⟩

theorem lt_of_some {l : List Int} {k : Nat} {x : Int} (h : l[k]? = some x) : k < l.length := by
  rcases Nat.lt_or_ge k l.length with g | g
  · exact g
  · rw [List.getElem?_eq_none g] at h; cases h

set_option maxHeartbeats 800000 in
theorem ahead_any (A : Option Addr) (n cp : Nat) (l : List Int) (w : World) (s : Sl .u8 w A n cp l) (hb : IsB l) :
    Calls Tryz.prog 91 #[.slice A n cp, .func (.func 92) #[] #[]] w fun e w' => e = .returned (.int .i64 (rn l)) ∧ w = w' := by
  have hmax : n ≤ 9223372036854775807 := by have := s.max; have := s.le; unfold maxLen at *; omega
  have hlen := s.len
  have S := Lib.hid s
  have HB := Lib.hid hb
  have HL := Lib.hid hlen
  clear s hb hlen
  go_enter Tryz.func91, Tryz.ntmps91
  go_wp2
  go_loop [9] (fun ix => ∃ k : Nat, k ≤ n ∧ ix = .int .i64 k ∧ Ds (l.take k)) (fun ix => n - (intOf ix).toNat)
  case atStart => exact ⟨0, Nat.zero_le _, rfl, by intro x hx; simp at hx⟩
  case round =>
    obtain ⟨k, hk, rfl, hd⟩ := hrel
    have HD := Lib.hid hd
    clear hd
    by_cases hkn : k < n
    · obtain ⟨b1, o1, x, rfl, hx, hcx, _⟩ := S.out.row.look hkn
      have HX := Lib.hid hx
      have hxb := HB.out.at_ hx
      clear hx
      have i1 : (k : Int) < (n : Int) := by omega
      go_wp2_with fail
      refine (stop_any _ _ hxb).mono ?_
      rintro e w' ⟨rfl, rfl⟩
      by_cases hdg : 48 ≤ x ∧ x ≤ 57
      · rw [decide_eq_false (by simpa using hdg)]
        go_wp2
        go_round
        case rel => exact ⟨k + 1, by omega, by go_num, HD.out.take_next HX.out hdg⟩
        case measure => simp [intOf]; omega
      · rw [decide_eq_true hdg]
        go_wp2
        go_ret
        exact ⟨by rw [rn_stop HD.out HX.out hdg]; rfl, rfl⟩
    · obtain rfl : k = n := by omega
      go_wp2
      go_ret
      have h1 := HD.out
      rw [List.take_of_length_le (by rw [HL.out]; exact Nat.le_refl _)] at h1
      exact ⟨by rw [rn_all h1, HL.out]; rfl, rfl⟩

set_option maxHeartbeats 800000 in
theorem run_any (A : Option Addr) (n cp : Nat) (l : List Int) (i : Int) (w : World) (s : Sl .u8 w A n cp l) (hb : IsB l) :
    Calls Tryz.prog 73 #[.slice A n cp, .int .i64 i] w fun e w' => e = .returned (.int .i64 (rnAt l i)) ∧ w = w' := by
  have hmax : n ≤ 9223372036854775807 := by have := s.max; have := s.le; unfold maxLen at *; omega
  have hlen := s.len
  have hle := s.le
  have S := Lib.hid s
  have HB := Lib.hid hb
  have HL := Lib.hid hlen
  clear s hb hlen
  by_cases h0 : i < 0
  · rw [rnAt_out (.inl h0)]
    go_enter Tryz.func73, Tryz.ntmps73
    go_wp2; go_ret; exact ⟨rfl, rfl⟩
  · obtain ⟨k, rfl⟩ := Int.eq_ofNat_of_zero_le (a := i) (by omega)
    by_cases h1 : n ≤ k
    · rw [rnAt_end (by rw [HL.out]; exact h1)]
      go_enter Tryz.func73, Tryz.ntmps73
      go_wp2; go_ret; exact ⟨rfl, rfl⟩
    · rw [rnAt_in (by rw [HL.out]; omega)]
      have h2 : ¬ (n : Int) ≤ (k : Int) := by omega
      obtain ⟨b1, o1, x, rfl, hx, hcx, _⟩ := S.out.row.look (j := k) (by omega)
      have T := S.out.cutS k (n - k) (by omega)
      rw [List.take_of_length_le (by rw [List.length_drop, HL.out]; exact Nat.le_refl _)] at T
      have T := Lib.hid T
      go_enter Tryz.func73, Tryz.ntmps73
      go_wp2_with fail
      refine (ahead_any _ _ _ _ _ T.out (HB.out.drop k)).mono ?_
      rintro e w' ⟨rfl, rfl⟩
      go_wp2; go_ret; exact ⟨rfl, rfl⟩

set_option maxHeartbeats 400000 in
theorem fits_any (v d m : Int) (w : World) (hv : 0 ≤ v ∧ v ≤ m) (hd : 0 ≤ d ∧ d ≤ 9) (hm : m ≤ 9223372036854775807) :
    Calls Tryz.prog 74 #[.int .i64 v, .int .i64 d, .int .i64 m] w fun e w' => e = .returned (.bool (decide (v * 10 + d ≤ m))) ∧ w = w' := by
  by_cases h1 : d ≤ m
  · by_cases h2 : v ≤ (m - d) / 10
    · rw [decide_eq_true (show v * 10 + d ≤ m by omega)]
      go_enter Tryz.func74, Tryz.ntmps74
      go_wp2; go_ret; exact ⟨rfl, rfl⟩
    · rw [decide_eq_false (show ¬ v * 10 + d ≤ m by omega)]
      go_enter Tryz.func74, Tryz.ntmps74
      go_wp2; go_ret; exact ⟨rfl, rfl⟩
  · rw [decide_eq_false (show ¬ v * 10 + d ≤ m by omega)]
    go_enter Tryz.func74, Tryz.ntmps74
    go_wp2; go_ret; exact ⟨rfl, rfl⟩

theorem pair1 {a b c d : Int} (h : (a, b) = (c, d)) : Ending.returned (.tuple #[.int .i64 a, .int .i64 b]) = .returned (.tuple #[.int .i64 c, .int .i64 d]) := by
  rw [(Prod.mk.inj h).1, (Prod.mk.inj h).2]

set_option maxHeartbeats 1600000 in
theorem parse_any (A : Option Addr) (n cp : Nat) (l : List Int) (m : Int) (w : World) (s : Sl .u8 w A n cp l) (hb : IsB l) (hm : m ≤ 9223372036854775807) :
    Calls Tryz.prog 59 #[.slice A n cp, .int .i64 m] w fun e w' => e = .returned (.tuple #[.int .i64 (ps l m).1, .int .i64 (ps l m).2]) ∧ w = w' := by
  have hmax : n ≤ 9223372036854775807 := by have := s.max; have := s.le; unfold maxLen at *; omega
  have hlen := s.len
  have S := Lib.hid s
  have HB := Lib.hid hb
  have HL := Lib.hid hlen
  clear s hb hlen
  by_cases h0 : m < 0
  · rw [ps_neg h0]
    go_enter Tryz.func59, Tryz.ntmps59
    go_wp2; go_ret2; exact ⟨rfl, rfl⟩
  · by_cases h1 : n = 0
    · subst h1
      rw [ps_bad (by omega) (.inl (List.eq_nil_of_length_eq_zero HL.out))]
      go_enter Tryz.func59, Tryz.ntmps59
      go_wp2; go_ret2; exact ⟨rfl, rfl⟩
    · have hne : l ≠ [] := by rintro rfl; exact h1 HL.out.symm
      have HR := Lib.hid (rnAt_zero hne)
      have HN := Lib.hid hne
      clear hne
      have h1' : ((n : Int) == 0) = false := by simp; omega
      by_cases h2 : rn l < n
      · rw [ps_bad (by omega) (.inr (by rw [HL.out]; exact h2))]
        go_enter Tryz.func59, Tryz.ntmps59
        go_wp2_with fail
        refine (run_any _ _ _ _ _ _ S.out HB.out).mono ?_
        rintro e w' ⟨rfl, rfl⟩
        rw [HR.out]
        go_wp2; go_ret2; exact ⟨rfl, rfl⟩
      · have hd : Ds l := ds_of_rn (by have := rn_le l; rw [HL.out] at this ⊢; omega)
        have HD := Lib.hid hd
        clear hd
        go_enter Tryz.func59, Tryz.ntmps59
        go_wp2_with fail
        refine (run_any _ _ _ _ _ _ S.out HB.out).mono ?_
        rintro e w' ⟨rfl, rfl⟩
        rw [HR.out]
        go_wp2
        go_loop [6, 24] (fun v ix => ∃ k : Nat, k ≤ n ∧ ix = .int .i64 k ∧ v = .int .i64 (vl (l.take k)) ∧ vl (l.take k) ≤ m) (fun _ ix => n - (intOf ix).toNat)
        case atStart => exact ⟨0, Nat.zero_le _, rfl, rfl, by simp [vl]; omega⟩
        case round =>
          obtain ⟨k, hk, rfl, rfl, hv⟩ := hrel
          by_cases hkn : k < n
          · obtain ⟨b1, o1, x, rfl, hx, hcx, _⟩ := S.out.row.look hkn
            have HX := Lib.hid hx
            have hxb := HD.out x (List.mem_of_getElem? hx)
            have hpos := vl_pos (HD.out.take k)
            have HV := Lib.hid (vl_next hx)
            clear hx
            have i1 : (k : Int) < (n : Int) := by omega
            generalize hg : vl (l.take k) = v at *
            have HG := Lib.hid hg
            clear hg
            go_wp2_with fail
            refine (fits_any v (x - 48) m _ ⟨hpos, hv⟩ (by omega) hm).mono ?_
            rintro e w' ⟨rfl, rfl⟩
            by_cases hf : v * 10 + (x - 48) ≤ m
            · rw [decide_eq_true hf]
              go_wp2
              go_round
              case rel => exact ⟨k + 1, by omega, by go_num, by rw [HV.out], by rw [HV.out]; exact hf⟩
              case measure => simp [intOf]; omega
            · rw [decide_eq_false hf]
              go_wp2
              go_ret2
              refine ⟨pair1 ?_, rfl⟩
              rw [ps_over (by omega) HN.out HD.out]
              have := vl_mono HD.out (k + 1)
              rw [HV.out] at this
              omega
          · obtain rfl : k = n := by omega
            rw [List.take_of_length_le (by rw [HL.out]; exact Nat.le_refl _)] at hv ⊢
            go_wp2
            go_ret2
            exact ⟨pair1 (ps_ok (by omega) HN.out HD.out hv).symm, rfl⟩
end Da
end Go.Proofs.YtigiiofiajhnlaaGreatDoor
