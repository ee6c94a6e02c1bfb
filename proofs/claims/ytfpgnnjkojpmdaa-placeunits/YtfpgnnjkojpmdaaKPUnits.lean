/-
  The walk of PlaceUnits.
-/
import Derived.Test.YtfpgnnjkojpmdaaPi
import Derived.Test.YtfpgnnjkojpmdaaWe
import Derived.Test.YtfpgnnjkojpmdaaWp
namespace Go.Proofs.Ytfpgnnjkojpmdaa
set_option linter.unusedVariables false
set_option linter.unusedSimpArgs false
open Go.RowKit Go.ChangeShapes Go.WideShapes
open Utf Wd Wr We Wi Lm Lc Pc

theorem ends_none {l : List Int} (h : ∀ x ∈ l, x ≠ 10 ∧ x ≠ 13) (p : Nat) : Lm.ends p l = [] := by
  have := ends_hi l p [] h
  rw [List.append_nil] at this
  rw [this]; rfl
theorem lns_none {l : List Int} (h : ∀ x ∈ l, x ≠ 10 ∧ x ≠ 13) : lns l = [(0, l.length)] := by
  unfold lns; rw [ends_none h]; rfl
theorem ln_none {cs : List Int} (h : ∀ x ∈ encs cs, x ≠ 10 ∧ x ≠ 13) : Ln cs 0 (0, (encs cs).length) cs :=
  ⟨by rw [lns_none h]; rfl, ⟨[], [], by simp, by simp⟩, by simp⟩
theorem take_more {l : List Int} {k : Nat} {z : Int} (hz : l[k]? = some z) (h : ∀ x ∈ l.take k, x ≠ 10 ∧ x ≠ 13) (h1 : z ≠ 10) (h2 : z ≠ 13) : ∀ x ∈ l.take (k + 1), x ≠ 10 ∧ x ≠ 13 := by
  intro x hx
  rw [List.take_add_one, hz] at hx
  rcases List.mem_append.1 hx with g | g
  · exact h x g
  · simp at g; subst g; exact ⟨h1, h2⟩

set_option maxRecDepth 100000 in
set_option maxHeartbeats 3200000 in
theorem walk_PlaceUnits (A0 : Option Addr) (n0 c0 : Nat) (l0 : List Int) (a1 : Int) (w : World) (s0 : Sl .u8 w A0 n0 c0 l0) (b0 : ∀ x ∈ l0, (Lit.int .u8 x).wf = true) (z0 : c0 * 1 ≤ 140737488351232) (w1 : (Lit.int .i64 a1).wf = true) :
    Calls Try.prog 10 #[.slice A0 n0 c0, .int .i64 a1] w fun e w' => e = .returned (.bool true) ∧ Below w.heap.size w w' := by
  have hx1 := i64_of w1
  have S := Lib.hid s0
  have hB := isB_of b0
  have hnle := s0.le
  have hlen := s0.len
  have HB := Lib.hid hB
  have HL := Lib.hid hlen
  have hn0 := Lib.hid (show n0 ≤ 140737488351232 by omega)
  have hn1 : n0 ≤ 9223372036854775806 := by omega
  clear s0 b0 z0 w1 hlen
  obtain ⟨ch, h2⟩ := Int.eq_ofNat_of_zero_le (Int.emod_nonneg a1 (b := 1099511627776) (by omega))
  have h2l := Int.emod_lt_of_pos a1 (b := 1099511627776) (by omega)
  rw [h2] at h2l
  have HB2 := Lib.hid h2
  have hchm := Lib.hid (show ch ≤ 9223372036854775807 by omega)
  clear h2 h2l
  go_enter Try.func10, Try.ntmps10
  go_wp2_with fail
  refine (works_true w).mono ?_
  rintro e' w1 ⟨rfl, hb1⟩
  have B1 := Lib.hid hb1
  have S1 := Lib.hid (S.out.below hb1)
  clear hb1
  go_wp2_with fail
  go_loop [5] (fun a => ∃ k : Nat, a = .int .i64 (k : Nat) ∧ k ≤ n0 ∧ Hid (∀ x ∈ l0.take k, x ≠ 10 ∧ x ≠ 13)) (fun a => n0 - (intOf a).toNat)
  case atStart => exact ⟨0, rfl, by omega, Lib.hid (by simp)⟩
  case round =>
    obtain ⟨k, rfl, hk, hno⟩ := hrel
    by_cases hkn : k < n0
    · have j1 : (k : Int) < (n0 : Int) := by omega
      obtain ⟨bb, off, z, rfl, hz, hcz, _⟩ := S1.out.row.look (j := k) (by omega)
      have HZ := Lib.hid hz
      clear hz
      by_cases hz1 : z = 10
      · have z1 : (z == 10) = true := by simpa using hz1
        clear hz1
        go_wp2_with fail
        go_ret
        exact ⟨rfl, B1.out⟩
      · have z1 : (z == 10) = false := by simpa using hz1
        by_cases hz2 : z = 13
        · have z2 : (z == 13) = true := by simpa using hz2
          clear hz1 hz2
          go_wp2_with fail
          go_ret
          exact ⟨rfl, B1.out⟩
        · have z2 : (z == 13) = false := by simpa using hz2
          have hno' := Lib.hid (take_more HZ.out hno.out hz1 hz2)
          clear hz1 hz2
          go_wp2_with fail
          go_round
          case rel => exact ⟨k + 1, by go_num, by omega, hno'⟩
          case measure => simp [intOf]; omega
    · obtain rfl : k = n0 := by omega
      have j1 : ¬ (k : Int) < (k : Int) := by omega
      have hall : ∀ x ∈ l0, x ≠ 10 ∧ x ≠ 13 := by
        have := hno.out
        rw [List.take_of_length_le (by rw [HL.out]; exact Nat.le_refl _)] at this; exact this
      rcases txt_or hB with ⟨cs, hc, rfl⟩ | ⟨x, y, e, he, hch⟩
      · have HC := Lib.hid hc
        have hln := ln_none hall
        have ho : Hid (off cs 0 ch = (Utf.ends cs ch).1) := Lib.hid (by rw [hln.off hc]; simp)
        have hpe : Hid (plc cs (encs cs).length = (0, (uns cs).length)) := Lib.hid (plc_end hc hln (by rw [lns_none hall]; rfl))
        have hfew := Lib.hid (show ((Lm.ends 0 (encs cs)).length + 1) * 16 ≤ 140737488355328 by rw [ends_none hall]; decide)
        clear hall hln hc hno
        go_wp2_with fail
        refine (made_ok _ _ _ _ _ HC.out S1.out hfew.out (by have := hn0.out; omega)).mono ?_
        rintro e' w2 ⟨M, P, A, c, rfl, hM, hb⟩
        have HM := Lib.hid hM
        have B2 := Lib.hid (ext_trans B1.out hb)
        have S2 := Lib.hid (S1.out.below hb)
        clear hM hb
        go_wp2_with fail
        refine (bring_at a1 1099511627776 (by decide) (by decide) hx1.1 hx1.2 _ HB2.out).mono ?_
        rintro e w' ⟨rfl, rfl⟩
        go_wp2_with fail
        refine (lpos_any _ _ _).mono ?_
        rintro r w3 ⟨rfl, hb⟩
        have B3 := Lib.hid (ext_trans B2.out hb)
        have HM3 := Lib.hid (HM.out.ext hb)
        have S3 := Lib.hid (S2.out.below hb)
        clear hb
        go_wp2_with fail
        refine (offset_ok _ _ _ _ _ _ HM3.out 0 ch hchm.out ho.out).mono ?_
        rintro r w4 ⟨rfl, hb⟩
        have B4 := Lib.hid (ext_trans B3.out hb)
        have HM4 := Lib.hid (HM3.out.ext hb)
        have S4 := Lib.hid (S3.out.below hb)
        clear hb
        go_wp2_with fail
        refine (Uw.offset_txt _ _ _ _ _ HC.out S4.out ch hchm.out).mono ?_
        rintro r w' ⟨rfl, rfl⟩
        go_wp2_with fail
        refine (Uw.of_txt _ _ _ _ _ HC.out S4.out).mono ?_
        rintro r w' ⟨rfl, rfl⟩
        obtain ⟨z, hz⟩ : ∃ z, (Utf.ends cs ch).1 = z := ⟨_, rfl⟩
        rw [hz]
        clear hz
        have t1 : ((z : Int) == (z : Int)) = true := by simp
        go_wp2_with fail
        refine (end_ok _ _ _ _ _ _ HM4.out hpe.out).mono ?_
        rintro r w5 ⟨rfl, hb⟩
        have B5 := Lib.hid (ext_trans B4.out hb)
        clear hb
        go_wp2_with fail
        refine (lpos_any _ _ _).mono ?_
        rintro r w6 ⟨rfl, hb⟩
        have B6 := Lib.hid (ext_trans B5.out hb)
        clear hb
        go_wp2_with fail
        go_ret
        exact ⟨rfl, B6.out⟩
      · have K := Lib.hid hch
        clear hch hall
        go_wp2_with fail
        refine (made_bad _ _ _ _ _ S1.out HB.out K.out he).mono ?_
        rintro e' w2 ⟨rfl, rfl⟩
        go_wp2_with fail
        go_ret
        exact ⟨rfl, B1.out⟩
end Go.Proofs.Ytfpgnnjkojpmdaa
