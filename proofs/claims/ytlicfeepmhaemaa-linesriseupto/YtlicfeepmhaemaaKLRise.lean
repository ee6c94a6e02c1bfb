/-
  The walk of LinesRise.
-/
import Derived.Test.YtlicfeepmhaemaaLr
import Derived.Test.YtlicfeepmhaemaaWe
import Derived.Test.YtlicfeepmhaemaaWp
namespace Go.Proofs.Ytlicfeepmhaemaa
set_option linter.unusedVariables false
set_option linter.unusedSimpArgs false
open Go.RowKit Go.ChangeShapes Go.WideShapes
open Utf Wd Wr We Wi Lm Lc

theorem rise_parts {b : List Int} {x y r s : Nat} (hxy : x ≤ y) (h : Parts (lns b) x (r + 1)) (k : Parts (lns b) y (s + 1)) : r ≤ s ∧ s - r ≤ y - x := by
  have hr : r < (lns b).length := h.1
  have hs : s < (lns b).length := k.1
  have pr := List.getElem?_eq_getElem hr
  have ps := List.getElem?_eq_getElem hs
  have h1 := h.2.1 r _ (Nat.lt_succ_self _) pr
  have k1 := k.2.1 s _ (Nat.lt_succ_self _) ps
  rcases Nat.lt_or_ge s r with q | q
  · have := k.2.2 r _ q pr
    omega
  · refine ⟨q, ?_⟩
    rcases Nat.lt_or_ge r s with g | g
    · have hr1 : r + 1 < (lns b).length := by omega
      have pr1 := List.getElem?_eq_getElem hr1
      have h2 := h.2.2 (r + 1) _ (Nat.le_refl _) pr1
      have h3 := ln_rise b (s - (r + 1)) pr1 (by rw [show r + 1 + (s - (r + 1)) = s by omega]; exact ps)
      omega
    · omega

set_option maxRecDepth 100000 in
set_option maxHeartbeats 1600000 in
theorem walk_LinesRise (A0 : Option Addr) (n0 c0 : Nat) (l0 : List Int) (a1 : Int) (a2 : Int) (w : World) (s0 : Sl .u8 w A0 n0 c0 l0) (b0 : ∀ x ∈ l0, (Lit.int .u8 x).wf = true) (z0 : c0 * 1 ≤ 140737488351232) (u0 : c0 ≤ 1048576) (w1 : (Lit.int .i64 a1).wf = true) (w2 : (Lit.int .i64 a2).wf = true) :
    Calls Try.prog 7 #[.slice A0 n0 c0, .int .i64 a1, .int .i64 a2] w fun e w' => e = .returned (.bool true) ∧ Below w.heap.size w w' := by
  have hx1 := i64_of w1
  have hx2 := i64_of w2
  have S := Lib.hid s0
  have hB := isB_of b0
  have hnle := s0.le
  have hlen := s0.len
  have HL := Lib.hid hlen
  clear s0 b0 z0 w1 w2
  obtain ⟨m, hm⟩ := Int.eq_ofNat_of_zero_le (Int.emod_nonneg a1 (b := (n0 : Int) + 1) (by omega))
  obtain ⟨k, hk⟩ := Int.eq_ofNat_of_zero_le (Int.emod_nonneg a2 (b := (n0 : Int) + 1) (by omega))
  have hm1 := Int.emod_lt_of_pos a1 (b := (n0 : Int) + 1) (by omega)
  have hk1 := Int.emod_lt_of_pos a2 (b := (n0 : Int) + 1) (by omega)
  rw [hm] at hm1
  rw [hk] at hk1
  have HM := Lib.hid hm
  have HK := Lib.hid hk
  clear hm hk
  obtain ⟨x, y, e, hch⟩ : ∃ x y e, chk l0 = (x, y, e) := ⟨_, _, _, rfl⟩
  have HC := Lib.hid hch
  clear hch
  go_enter Try.func7, Try.ntmps7
  go_wp2_with fail
  refine (works_true w).mono ?_
  rintro e' w1 ⟨rfl, hb1⟩
  go_wp2_with fail
  by_cases he : e = 0
  · subst he
    refine (new_ok _ _ _ _ _ (S.out.below hb1) hB HC.out (by omega)).mono ?_
    rintro e w2 ⟨P, rfl, hI, hb2⟩
    have B2 := Lib.hid (ext_trans hb1 hb2)
    have I2 := Lib.hid hI
    have OK := Lib.hid (ok_lns l0 (by omega))
    clear hb1 hb2 hI
    go_wp2_with fail
    refine (bring_at a1 ((n0 : Int) + 1) (by omega) (by omega) hx1.1 hx1.2 _ HM.out).mono ?_
    rintro e w' ⟨rfl, rfl⟩
    go_wp2_with fail
    refine (bring_at a2 ((n0 : Int) + 1) (by omega) (by omega) hx2.1 hx2.2 _ HK.out).mono ?_
    rintro e w' ⟨rfl, rfl⟩
    have hord : (k < m ∧ ¬ m < k) ∨ (m < k ∧ ¬ k < m) ∨ (m = k) := by omega
    rcases hord with ⟨h1, h2⟩ | ⟨h1, h2⟩ | h1
    · go_wp2_with fail
      refine (find_ok _ P (lns l0) l0.length k w2 I2.out OK.out (by omega)).mono ?_
      rintro e w3 ⟨r, rfl, hp, hb3⟩
      have B3 := Lib.hid (ext_trans B2.out hb3)
      have I3 := Lib.hid (I2.out.ext hb3)
      have PR := Lib.hid hp
      clear hb3 hp
      go_wp2_with fail
      refine (find_ok _ P (lns l0) l0.length m w3 I3.out OK.out (by omega)).mono ?_
      rintro e w4 ⟨s, rfl, hp, hb4⟩
      have B4 := Lib.hid (ext_trans B3.out hb4)
      have hrs := rise_parts (Nat.le_of_lt h1) PR.out hp
      have hlr : r ≤ 1048577 := by have := PR.out.1; have := lns_le l0; omega
      have hls : s ≤ 1048577 := by have := hp.1; have := lns_le l0; omega
      clear hb4 hp
      have q1 : decide (r ≤ s) = true := decide_eq_true hrs.1
      have q2 : IntKind.i64.wrap ((s : Int) - (r : Int)) = (s : Int) - (r : Int) := by rw [IntKind.wrap_i64]; omega
      have q3 : IntKind.i64.wrap ((m : Int) - (k : Int)) = (m : Int) - (k : Int) := by rw [IntKind.wrap_i64]; omega
      have q4 : decide ((s : Int) - (r : Int) ≤ (m : Int) - (k : Int)) = true := decide_eq_true (by omega)
      go_wp2_with fail
      go_ret
      exact ⟨rfl, B4.out⟩
    · go_wp2_with fail
      refine (find_ok _ P (lns l0) l0.length m w2 I2.out OK.out (by omega)).mono ?_
      rintro e w3 ⟨r, rfl, hp, hb3⟩
      have B3 := Lib.hid (ext_trans B2.out hb3)
      have I3 := Lib.hid (I2.out.ext hb3)
      have PR := Lib.hid hp
      clear hb3 hp
      go_wp2_with fail
      refine (find_ok _ P (lns l0) l0.length k w3 I3.out OK.out (by omega)).mono ?_
      rintro e w4 ⟨s, rfl, hp, hb4⟩
      have B4 := Lib.hid (ext_trans B3.out hb4)
      have hrs := rise_parts (Nat.le_of_lt h1) PR.out hp
      have hlr : r ≤ 1048577 := by have := PR.out.1; have := lns_le l0; omega
      have hls : s ≤ 1048577 := by have := hp.1; have := lns_le l0; omega
      clear hb4 hp
      have q1 : decide (r ≤ s) = true := decide_eq_true hrs.1
      have q2 : IntKind.i64.wrap ((s : Int) - (r : Int)) = (s : Int) - (r : Int) := by rw [IntKind.wrap_i64]; omega
      have q3 : IntKind.i64.wrap ((k : Int) - (m : Int)) = (k : Int) - (m : Int) := by rw [IntKind.wrap_i64]; omega
      have q4 : decide ((s : Int) - (r : Int) ≤ (k : Int) - (m : Int)) = true := decide_eq_true (by omega)
      go_wp2_with fail
      go_ret
      exact ⟨rfl, B4.out⟩
    · subst h1
      go_wp2_with fail
      refine (find_ok _ P (lns l0) l0.length m w2 I2.out OK.out (by omega)).mono ?_
      rintro e w3 ⟨r, rfl, hp, hb3⟩
      have B3 := Lib.hid (ext_trans B2.out hb3)
      have I3 := Lib.hid (I2.out.ext hb3)
      have PR := Lib.hid hp
      clear hb3 hp
      go_wp2_with fail
      refine (find_ok _ P (lns l0) l0.length m w3 I3.out OK.out (by omega)).mono ?_
      rintro e w4 ⟨s, rfl, hp, hb4⟩
      have B4 := Lib.hid (ext_trans B3.out hb4)
      obtain rfl : r = s := by have := parts_one PR.out hp; omega
      clear hb4 hp
      go_wp2_with fail
      go_ret
      exact ⟨rfl, B4.out⟩
  · refine (new_bad _ _ _ _ _ (S.out.below hb1) hB HC.out he).mono ?_
    rintro e' w2 ⟨rfl, rfl⟩
    have d : (e != 0) = true := by simpa using he
    have HB := Lib.hid hb1
    clear hb1 he
    go_wp2_with fail
    go_ret
    exact ⟨rfl, HB.out⟩
end Go.Proofs.Ytlicfeepmhaemaa
