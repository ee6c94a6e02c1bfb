/-
  The walk of DigitsSplit.
-/
import Derived.Test.YtcidicelmncipaaDoorDd
import Derived.Test.YtcidicelmncipaaDoorWp
namespace Go.Proofs.YtcidicelmncipaaDoor
set_option linter.unusedVariables false
open Go.RowKit Go.ChangeShapes Go.WideShapes
open Wd We Dm Da Db It Dc Dd

/-- a run's bytes are a number's -/
theorem ps_run {l : List Int} {i : Nat} (h : 0 < rnAt l (i : Int)) (m : Int) (hm : 0 ≤ m) : ∃ x e, ps ((l.drop i).take (rnAt l (i : Int))) m = (x, e) ∧ (e = 0 ∨ e = 5) := by
  have hi : i < l.length := by
    rcases Nat.lt_or_ge i l.length with g | g
    · exact g
    · rw [rnAt_end g] at h; omega
  rw [rnAt_in hi] at h ⊢
  have hd := ds_rn (l.drop i)
  have hne : (l.drop i).take (rn (l.drop i)) ≠ [] := by
    intro e
    have := congrArg List.length e
    rw [List.length_take, List.length_drop, List.length_nil] at this
    have := rn_le (l.drop i)
    rw [List.length_drop] at this
    omega
  by_cases g : vl ((l.drop i).take (rn (l.drop i))) ≤ m
  · exact ⟨_, _, ps_ok hm hne hd g, .inl rfl⟩
  · exact ⟨_, _, ps_over hm hne hd (by omega), .inr rfl⟩
/-- with one byte more they are none -/
theorem ps_more {l : List Int} {i : Nat} (h : i + rnAt l (i : Int) < l.length) (m : Int) (hm : 0 ≤ m) : ps ((l.drop i).take (rnAt l (i : Int) + 1)) m = (0, 4) := by
  have hi : i < l.length := by omega
  rw [rnAt_in hi] at h ⊢
  refine ps_bad hm (.inr ?_)
  have hlt : rn (l.drop i) < (l.drop i).length := by rw [List.length_drop]; omega
  have hx : (l.drop i)[rn (l.drop i)]? = some (l.drop i)[rn (l.drop i)] := List.getElem?_eq_getElem hlt
  have hn := rn_end hx
  have : rn ((l.drop i).take (rn (l.drop i) + 1)) = rn (l.drop i) := by
    refine rn_stop (x := (l.drop i)[rn (l.drop i)]) ?_ ?_ hn
    · rw [List.take_take, Nat.min_eq_left (by omega)]; exact ds_rn _
    · rw [List.getElem?_take, if_pos (by omega)]; exact hx
  rw [this, List.length_take]; omega

set_option maxRecDepth 100000 in
set_option maxHeartbeats 1600000 in
theorem walk_DigitsSplit (A0 : Option Addr) (n0 c0 : Nat) (l0 : List Int) (a1 : Int) (w : World) (s0 : Sl .u8 w A0 n0 c0 l0) (b0 : ∀ x ∈ l0, (Lit.int .u8 x).wf = true) (z0 : c0 * 1 ≤ 140737488351232) (w1 : (Lit.int .i64 a1).wf = true) (tab : It.Tab w) :
    Calls Tryd.prog 9 #[.slice A0 n0 c0, .int .i64 a1] w fun e w' => e = .returned (.bool true) ∧ Below w.heap.size w w' := by
  have hle := s0.le
  have hlen := s0.len
  have hi := i64_of w1
  have hn : n0 ≤ 140737488355328 := by omega
  have hbr := bring_any a1 ((n0 : Int) + 1) (by omega) (by omega) hi.1 hi.2
  obtain ⟨i, he⟩ := Int.eq_ofNat_of_zero_le (Int.emod_nonneg a1 (b := (n0 : Int) + 1) (by omega))
  have hin := Int.emod_lt_of_pos a1 (b := (n0 : Int) + 1) (by omega)
  rw [he] at hbr hin
  have hin2 : i ≤ n0 := by omega
  have HBR := Lib.hid hbr
  have S := Lib.hid s0
  have HL := Lib.hid hlen
  have HB := Lib.hid (isB_of b0)
  have T := Lib.hid tab
  have hroom : i + rnAt l0 (i : Int) ≤ n0 := by have := rnAt_room (l := l0) (i := i) (by omega); omega
  generalize hk : rnAt l0 (i : Int) = k at *
  have HK := Lib.hid hk
  clear s0 b0 z0 w1 hlen tab hbr he hin hi hk
  go_enter Tryd.func9, Tryd.ntmps9
  go_wp2_with fail
  refine (HBR.out _).mono ?_
  rintro e w' ⟨rfl, rfl⟩
  go_wp2_with fail
  refine (run_any _ _ _ _ _ _ S.out HB.out).mono ?_
  rintro e w' ⟨rfl, rfl⟩
  rw [HK.out]
  have i1 : decide ((k : Int) < 0) = false := by simp
  have i2 : decide ((n0 : Int) - (i : Int) < (k : Int)) = false := by simp; omega
  by_cases h0 : n0 = 0
  · have hk0 : k = 0 := by omega
    have hi0 : i = 0 := by omega
    subst h0 hk0 hi0
    go_wp2_with fail
    refine (awake_true _ T.out).mono ?_
    rintro e w1 ⟨rfl, hb1⟩
    go_wp2
    go_ret
    exact ⟨rfl, hb1⟩
  · obtain ⟨b1, o1, x, rfl, _, _, _⟩ := S.out.row.look (j := 0) (by omega)
    have hend : Calls Tryd.prog 15 #[] w fun e w' => e = .returned (.bool true) ∧ Below w.heap.size w w' := awake_true _ T.out
    have HE := Lib.hid hend
    clear hend
    by_cases hin3 : i + k < n0
    · have hp := ps_more (l := l0) (i := i) (by rw [HK.out, HL.out]; omega) 4611686018427387904 (by omega)
      rw [HK.out] at hp
      have HP := Lib.hid hp
      clear hp
      have i4 : decide ((i : Int) + (k : Int) < (n0 : Int)) = true := by simp; omega
      have S4 := S.out.cutS i (k + 1) (by omega)
      rw [show k + 1 = i + k + 1 - i by omega] at S4
      have S4 := Lib.hid S4
      rw [show k + 1 = i + k + 1 - i by omega] at HP
      by_cases hk0 : k = 0
      · have i3 : decide (0 < k) = false := by simp; omega
        clear hk0
        go_wp2_with fail
        refine (parse_any _ _ _ _ _ _ S4.out ((HB.out.drop i).take _) (by omega)).mono ?_
        rintro e w' ⟨rfl, rfl⟩
        rw [HP.out]
        go_wp2_with fail
        refine HE.out.mono ?_
        rintro e w1 ⟨rfl, hb1⟩
        go_wp2
        go_ret
        exact ⟨rfl, hb1⟩
      · have i3 : decide (0 < k) = true := by simp; omega
        have hci : ¬ c0 = i := by omega
        obtain ⟨v, er, hq, he⟩ := ps_run (l := l0) (i := i) (by rw [HK.out]; omega) 4611686018427387904 (by omega)
        rw [HK.out] at hq
        have HQ := Lib.hid hq
        have S5 := Lib.hid (S.out.cutS i k (by omega))
        clear hk0 hq
        go_wp2_with fail
        refine (parse_any _ _ _ _ _ _ S5.out ((HB.out.drop i).take _) (by omega)).mono ?_
        rintro e w' ⟨rfl, rfl⟩
        rw [HQ.out]
        rcases he with rfl | rfl
        all_goals
          go_wp2_with fail
          refine (parse_any _ _ _ _ _ _ S4.out ((HB.out.drop i).take _) (by omega)).mono ?_
          rintro e w' ⟨rfl, rfl⟩
          rw [HP.out]
          go_wp2_with fail
          refine HE.out.mono ?_
          rintro e w1 ⟨rfl, hb1⟩
          go_wp2
          go_ret
          exact ⟨rfl, hb1⟩
    · have i4 : decide ((i : Int) + (k : Int) < (n0 : Int)) = false := by simp; omega
      by_cases hk0 : k = 0
      · have i3 : decide (0 < k) = false := by simp; omega
        clear hk0
        go_wp2_with fail
        refine HE.out.mono ?_
        rintro e w1 ⟨rfl, hb1⟩
        go_wp2
        go_ret
        exact ⟨rfl, hb1⟩
      · have i3 : decide (0 < k) = true := by simp; omega
        have hci : ¬ c0 = i := by omega
        obtain ⟨v, er, hq, he⟩ := ps_run (l := l0) (i := i) (by rw [HK.out]; omega) 4611686018427387904 (by omega)
        rw [HK.out] at hq
        have HQ := Lib.hid hq
        have S5 := Lib.hid (S.out.cutS i k (by omega))
        clear hk0 hq
        go_wp2_with fail
        refine (parse_any _ _ _ _ _ _ S5.out ((HB.out.drop i).take _) (by omega)).mono ?_
        rintro e w' ⟨rfl, rfl⟩
        rw [HQ.out]
        rcases he with rfl | rfl
        all_goals
          go_wp2_with fail
          refine HE.out.mono ?_
          rintro e w1 ⟨rfl, hb1⟩
          go_wp2
          go_ret
          exact ⟨rfl, hb1⟩
end Go.Proofs.YtcidicelmncipaaDoor
