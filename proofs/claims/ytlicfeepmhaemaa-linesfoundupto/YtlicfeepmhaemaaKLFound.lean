/-
  The walk of LinesFound.
-/
import Derived.Test.YtlicfeepmhaemaaLs
import Derived.Test.YtlicfeepmhaemaaWe
import Derived.Test.YtlicfeepmhaemaaWp
namespace Go.Proofs.Ytlicfeepmhaemaa
set_option linter.unusedVariables false
set_option linter.unusedSimpArgs false
open Go.RowKit Go.ChangeShapes Go.WideShapes
open Utf Wd Wr We Wi Lm Lc

set_option maxRecDepth 100000 in
set_option maxHeartbeats 1600000 in
theorem walk_LinesFound (A0 : Option Addr) (n0 c0 : Nat) (l0 : List Int) (a1 : Int) (w : World) (s0 : Sl .u8 w A0 n0 c0 l0) (b0 : ∀ x ∈ l0, (Lit.int .u8 x).wf = true) (z0 : c0 * 1 ≤ 140737488351232) (u0 : c0 ≤ 1048576) (w1 : (Lit.int .i64 a1).wf = true) :
    Calls Try.prog 6 #[.slice A0 n0 c0, .int .i64 a1] w fun e w' => e = .returned (.bool true) ∧ Below w.heap.size w w' := by
  have hx1 := i64_of w1
  have S := Lib.hid s0
  have hB := isB_of b0
  have hnle := s0.le
  have hlen := s0.len
  have hll := lns_le l0
  have hlp := lns_ne l0
  clear s0 b0 z0 w1
  obtain ⟨N, hN⟩ : ∃ N, (lns l0).length = N := ⟨_, rfl⟩
  rw [hN] at hll hlp
  obtain ⟨m, hm⟩ := Int.eq_ofNat_of_zero_le (Int.emod_nonneg a1 (b := (N : Int)) (by omega))
  have hm1 := Int.emod_lt_of_pos a1 (b := (N : Int)) (by omega)
  rw [hm] at hm1
  have hml : m < N := by omega
  obtain ⟨p, q, hp, hq⟩ := ln_both l0 (i := m) (by omega)
  have hat := ln_at l0 hp hq
  have HP := Lib.hid hp
  have HQ := Lib.hid hq
  have HM := Lib.hid hm
  have HN := Lib.hid hN
  have HL := Lib.hid hlen
  have hq12 : q.1 ≤ q.2 := by omega
  have hq2 : q.2 ≤ l0.length := hat.2.2.2.1
  rw [hlen] at hq2
  clear hm hN hp hq hat
  obtain ⟨x, y, e, hch⟩ : ∃ x y e, chk l0 = (x, y, e) := ⟨_, _, _, rfl⟩
  have HC := Lib.hid hch
  clear hch
  go_enter Try.func6, Try.ntmps6
  go_wp2_with fail
  refine (works_true w).mono ?_
  rintro e' w1 ⟨rfl, hb1⟩
  go_wp2_with fail
  by_cases he : e = 0
  · subst he
    refine (new_ok _ _ _ _ _ (S.out.below hb1) hB HC.out (by omega)).mono ?_
    rintro e w2 ⟨P, rfl, hI, hb2⟩
    have B2 := Lib.hid (ext_trans hb1 hb2)
    have I2 := Lib.hid hI
    have OK := Lib.hid (ok_lns l0 (by omega))
    clear hb1 hb2 hI
    go_wp2_with fail
    refine (count_txt _ P l0 w2 I2.out).mono ?_
    rintro e w' ⟨rfl, rfl⟩
    rw [HN.out]
    go_wp2_with fail
    refine (bring_at a1 (N : Int) (by omega) (by omega) hx1.1 hx1.2 _ HM.out).mono ?_
    rintro e w' ⟨rfl, rfl⟩
    go_wp2_with fail
    refine (line_txt _ P l0 m p q w2 I2.out HP.out HQ.out).mono ?_
    rintro e w3 ⟨rfl, hb3⟩
    have B3 := Lib.hid (ext_trans B2.out hb3)
    have I3 := Lib.hid (I2.out.ext hb3)
    clear hb3
    simp only [sp]
    go_wp2_with fail
    obtain ⟨W0, hW0⟩ : ∃ W0, (w3.alloc (.cells #[.int .i64 (q.1 : Int), .int .i64 (q.2 : Int)] 35)).alloc (.cells #[.int .i64 (p.1 : Int), .int .i64 (p.2 : Int)] 35) = W0 := ⟨_, rfl⟩
    rw [hW0]
    have hb4 : Below w3.heap.size w3 W0 := by rw [← hW0]; exact ((Below.refl _ w3).alloc (Nat.le_refl _) _).alloc (by simp) _
    have hbx : Pair W0 w3.heap.size 35 q := by rw [← hW0]; exact (Pair.new w3 _ q).alloc _
    have B4 := Lib.hid (ext_trans B3.out hb4)
    have I4 := Lib.hid (I3.out.ext hb4)
    have HX := Lib.hid hbx
    have c0 := hbx.at0
    have hlt := hbx.lt
    clear hb4 hbx hW0
    go_loopw [10] (fun a wr => ∃ k : Nat, a = .int .i64 (k : Nat) ∧ q.1 ≤ k ∧ k ≤ q.2 ∧ Hid (Below W0.heap.size W0 wr)) (fun a _ => q.2 - (intOf a).toNat)
    case atStart => exact ⟨q.1, rfl, Nat.le_refl _, hq12, Lib.hid (Below.refl _ _)⟩
    case round =>
      obtain ⟨k, rfl, hk1, hk2, hbw⟩ := hrel
      have IW := Lib.hid (I4.out.ext hbw.out)
      have c1 : wr.cell? ⟨w3.heap.size, 1, none⟩ = some (.int .i64 (q.2 : Int)) := (hbw.out.cell (p := ⟨w3.heap.size, 1, none⟩) hlt).trans HX.out.at1
      by_cases hlk : k < q.2
      · have i1 : (k : Int) < (q.2 : Int) := by omega
        go_wp2_with fail
        refine (find_ok _ P (lns l0) l0.length k wr IW.out OK.out (by omega)).mono ?_
        rintro e w5 ⟨r, rfl, hpp, hb5⟩
        obtain rfl : r = m := by have := parts_one hpp (parts_whole l0 HP.out HQ.out hk1 hlk); omega
        have hbw' := Lib.hid (ext_trans hbw.out hb5)
        clear hpp hb5
        have q1 : ((r : Int) != (r : Int)) = false := by simp
        go_wp2_with fail
        go_roundw
        case rel => exact ⟨k + 1, by go_num, by omega, by omega, hbw'⟩
        case measure => simp [intOf]; omega
      · obtain rfl : k = q.2 := by omega
        have i1 : ¬ (q.2 : Int) < (q.2 : Int) := by omega
        go_wp2_with fail
        have hf1 := find_ok _ P (lns l0) l0.length l0.length wr IW.out OK.out (Nat.le_refl _)
        rw [HL.out] at hf1
        refine hf1.mono ?_
        rintro e w5 ⟨r, rfl, hpp, hb5⟩
        have hrN : r + 1 = N := by have := parts_one hpp (HL.out ▸ parts_end l0); rw [HN.out] at this; exact this
        subst hrN
        have hbw' := Lib.hid (ext_trans hbw.out hb5)
        have I5 := Lib.hid (IW.out.ext hb5)
        clear hpp hb5
        go_wp2_with fail
        refine (find_out _ P (lns l0) l0.length ((n0 : Int) + 1) w5 I5.out OK.out (by omega)).mono ?_
        rintro e w6 ⟨rfl, hb6⟩
        have hbw6 := Lib.hid (ext_trans hbw'.out hb6)
        have I6 := Lib.hid (I5.out.ext hb6)
        clear hb6
        go_wp2_with fail
        refine (count_txt _ P l0 w6 I6.out).mono ?_
        rintro e w' ⟨rfl, rfl⟩
        rw [HN.out]
        have q2 : IntKind.i64.wrap (r : Int) = (r : Int) := by rw [IntKind.wrap_i64]; omega
        have q1 : ((r : Int) == (r : Int)) = true := by simp
        go_wp2_with fail
        go_ret
        exact ⟨rfl, ext_trans B4.out hbw6.out⟩
  · refine (new_bad _ _ _ _ _ (S.out.below hb1) hB HC.out he).mono ?_
    rintro e' w2 ⟨rfl, rfl⟩
    have d : (e != 0) = true := by simpa using he
    have HB := Lib.hid hb1
    clear hb1 he
    go_wp2_with fail
    go_ret
    exact ⟨rfl, HB.out⟩
end Go.Proofs.Ytlicfeepmhaemaa
