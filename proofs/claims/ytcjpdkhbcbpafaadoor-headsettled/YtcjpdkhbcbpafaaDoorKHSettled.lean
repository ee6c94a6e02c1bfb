/-
  The walk of HeadSettled.
-/
import Derived.Test.YtcjpdkhbcbpafaaDoorHg
import Derived.Test.YtcjpdkhbcbpafaaDoorWp
namespace Go.Proofs.YtcjpdkhbcbpafaaDoor
set_option linter.unusedVariables false
open Go.RowKit Go.ChangeShapes Go.WideShapes
open Wd We Dm Dc Dd Hm Hb Hc Hd He Hg

theorem settled {l : List Int} {k : Nat} (hk : k ≤ l.length) :
    (prs (l.take k) = (0, 0, 3) ∧ k < 512) ∨ (∃ a b c : Int, prs (l.take k) = (a, b, c) ∧ prs l = (a, b, c) ∧ ¬ c = 3 ∧ (c = 0 → 0 ≤ b ∧ b ≤ k ∧ b ≤ 512)) := by
  have hlen : (l.take k).length = k := by rw [List.length_take]; omega
  have hcomm : (l.take k).take 512 = (l.take 512).take k := by rw [List.take_take, List.take_take, Nat.min_comm]
  cases hq : hEnd ((l.take k).take 512) with
  | none =>
    have h1 := prs_none hq
    rw [hlen] at h1
    by_cases h5 : 512 ≤ k
    · rw [if_pos h5] at h1
      have h2 : hEnd (l.take 512) = none := by
        rw [hcomm, List.take_of_length_le (by rw [List.length_take]; omega)] at hq; exact hq
      have h3 := prs_none h2
      rw [if_pos (by omega)] at h3
      exact .inr ⟨_, _, _, h1, h3, by omega, fun h => by omega⟩
    · rw [if_neg h5] at h1
      exact .inl ⟨h1, by omega⟩
  | some s =>
    have hq' := hq
    rw [hcomm] at hq
    obtain ⟨h1, h2⟩ := hEnd_of_take hq
    have h3 := (hEnd_le h1).2
    rw [List.length_take] at h3
    have h4 : (l.take k).take (s - 2) = l.take (s - 2) := by rw [List.take_take, Nat.min_eq_left (by omega)]
    right
    obtain ⟨n, e, hg⟩ : ∃ n e, go (-1) (spl (l.take (s - 2))) = (n, e) := ⟨_, _, rfl⟩
    have he := go_err (spl (l.take (s - 2))) (-1)
    rw [hg] at he
    have he : e = 0 ∨ e = 5 ∨ e = 60 := he
    by_cases h0 : e = 0
    · subst h0
      exact ⟨_, _, _, prs_ok hq' (by rw [h4]; exact hg), prs_ok h1 hg, by omega, fun _ => ⟨by omega, by omega, by omega⟩⟩
    · exact ⟨_, _, _, prs_bad hq' (by rw [h4]; exact hg) h0, prs_bad h1 hg h0, by omega, fun h => absurd h h0⟩

set_option maxRecDepth 100000 in
set_option maxHeartbeats 1600000 in
theorem walk_HeadSettled (A0 : Option Addr) (n0 c0 : Nat) (l0 : List Int) (a1 : Int) (w : World) (s0 : Sl .u8 w A0 n0 c0 l0) (b0 : ∀ x ∈ l0, (Lit.int .u8 x).wf = true) (z0 : c0 * 1 ≤ 140737488351232) (w1 : (Lit.int .i64 a1).wf = true) (env : Hb.Env w) :
    Calls Tryd.prog 6 #[.slice A0 n0 c0, .int .i64 a1] w fun e w' => e = .returned (.bool true) ∧ Below w.heap.size w w' := by
  have hn : n0 ≤ 140737488351232 := by have := s0.le; omega
  have hle := s0.le
  have hi := i64_of w1
  obtain ⟨N, hN⟩ : ∃ N, N = min n0 600 := ⟨_, rfl⟩
  have hmin : min (n0 : Int) 600 = (N : Int) := by omega
  have hN1 : N ≤ n0 := by omega
  have hN2 : N ≤ 600 := by omega
  have s1 := s0.cut0 N hN1
  have hb1 : IsB (l0.take N) := (isB_of b0).take N
  generalize l0.take N = l at *
  have hbr := bring_any a1 ((N : Int) + 1) (by omega) (by omega) hi.1 hi.2
  obtain ⟨k, hk⟩ := Int.eq_ofNat_of_zero_le (Int.emod_nonneg a1 (b := (N : Int) + 1) (by omega))
  have hk2 := Int.emod_lt_of_pos a1 (b := (N : Int) + 1) (by omega)
  rw [hk] at hbr hk2
  have hkN : k ≤ N := by omega
  have HBR := Lib.hid hbr
  have S1 := Lib.hid s1
  have S2 := Lib.hid (s1.cut0 k hkN)
  have HB := Lib.hid hb1
  have HB2 := Lib.hid (hb1.take k)
  have E := Lib.hid env
  have hst := settled (l := l) (k := k) (by rw [s1.len]; exact hkN)
  clear hbr hk hk2 w1 s0 b0 z0 s1 hb1 env hi hN
  go_enter Tryd.func6, Tryd.ntmps6
  go_wp2_with fail
  refine (HBR.out _).mono ?_
  rintro e w' ⟨rfl, rfl⟩
  go_wp2_with fail
  refine (He.parse_any _ _ _ _ _ S2.out HB2.out E.out).mono ?_
  rintro e w1 ⟨rfl, hb1⟩
  have E1 := Lib.hid (E.out.below hb1)
  have HB1 := Lib.hid hb1
  rcases hst with ⟨h1, h2⟩ | ⟨a, b, c, h1, h2, h3, h4⟩
  · rw [h1]
    have i1 : (k : Int) < 512 := by omega
    clear h1 hb1
    go_wp2_with fail
    refine (awake_ok _ E1.out).mono ?_
    rintro e w2 ⟨rfl, hb2⟩
    go_wp2
    go_ret
    exact ⟨rfl, ext_trans HB1.out hb2⟩
  · rw [h1]
    have d3 : (c == 3) = false := by simpa using h3
    have H2 := Lib.hid h2
    have S3 := Lib.hid (S1.out.below hb1)
    have qa : (a == a) = true := by simp
    have qb : (b == b) = true := by simp
    have qc : (c == c) = true := by simp
    clear h1 h2 h3 hb1
    go_wp2_with fail
    refine (He.parse_any _ _ _ _ _ S3.out HB.out E1.out).mono ?_
    rintro e w2 ⟨rfl, hb2⟩
    rw [H2.out]
    have E2 := Lib.hid (E1.out.below hb2)
    have HB2' := Lib.hid (ext_trans HB1.out hb2)
    clear hb2
    by_cases h0 : c = 0
    · obtain ⟨g1, g2, g3⟩ := h4 h0
      have d0 : (c != 0) = false := by simpa using h0
      clear h0 h4
      go_wp2_with fail
      refine (awake_ok _ E2.out).mono ?_
      rintro e w3 ⟨rfl, hb3⟩
      go_wp2
      go_ret
      exact ⟨rfl, ext_trans HB2'.out hb3⟩
    · have d0 : (c != 0) = true := by simpa using h0
      clear h0 h4
      go_wp2_with fail
      refine (awake_ok _ E2.out).mono ?_
      rintro e w3 ⟨rfl, hb3⟩
      go_wp2
      go_ret
      exact ⟨rfl, ext_trans HB2'.out hb3⟩
end Go.Proofs.YtcjpdkhbcbpafaaDoor
