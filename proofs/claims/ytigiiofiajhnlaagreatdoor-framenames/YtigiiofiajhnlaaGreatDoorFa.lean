/-
  What bytes.Clone, and package frame's cut, broken compute.
-/
import Derived.Test.YtigiiofiajhnlaaGreatDoorHe
import Derived.Test.YtigiiofiajhnlaaGreatDoorFm
import Derived.Test.YtigiiofiajhnlaaGreatDoorFo
namespace Go.Proofs.YtigiiofiajhnlaaGreatDoor
set_option linter.unusedVariables false
open Go.RowKit
namespace Fa
open Wd We Dm Dc Dd Hm Hb He Fm

theorem some_not_nil (a : Addr) (n c : Nat) (w : World) : (binOp .eql 27 (.slice (some a) n c) (.slice none 0 0)).run Tryz.prog w = .ok (.bool false) w := by
  have hm : Op.maxDepth = (Op.maxDepth - 1) + 1 := by decide
  simp only [binOp, Op.equal]
  rw [hm]
  simp [Op.equalIn, run_underlying Tryz.underlying27, Sem.run_bind, Sem.run_pure, Result.andThen]
theorem none_is_nil (w : World) : (binOp .eql 27 (.slice none 0 0) (.slice none 0 0)).run Tryz.prog w = .ok (.bool true) w := by
  have hm : Op.maxDepth = (Op.maxDepth - 1) + 1 := by decide
  simp only [binOp, Op.equal]
  rw [hm]
  simp [Op.equalIn, run_underlying Tryz.underlying27, Sem.run_bind, Sem.run_pure, Result.andThen]

set_option maxRecDepth 100000 in
set_option maxHeartbeats 800000 in
theorem clone_any (A : Option Addr) (n c : Nat) (l : List Int) (w : World) (s : Sl .u8 w A n c l) (hn : n ≤ 140737488500000) :
    Calls Tryz.prog 29 #[.slice A n c] w fun e w' => ∃ v, e = .returned v ∧ Wd.Own .u8 5 w' w.heap.size v l ∧ Below w.heap.size w w' := by
  obtain ⟨i0, hi, hz0, hz1, hz2⟩ := info_parts u8_info
  have hlen := s.len
  have hle := s.le
  cases A with
  | none =>
    have hc := s.nil rfl
    obtain rfl : n = 0 := by omega
    subst hc
    obtain rfl : l = [] := List.eq_nil_of_length_eq_zero hlen
    clear s
    go_enter Tryz.func29, Tryz.ntmps29
    go_wp2
    rw [none_is_nil]
    go_wp2
    go_ret
    exact ⟨_, rfl, Wd.Own.nil, Below.refl _ _⟩
  | some ad =>
    have S := Lib.hid (s.alloc (.cells #[] 5))
    have hbl := (Below.refl w.heap.size w).alloc (Nat.le_refl _) (.cells #[] 5)
    have hb := Lib.hid hbl
    have hsz := hbl.size
    have O := Lib.hid (Wd.Own.new w [] 5 .u8 (by simp) (Nat.le_refl w.heap.size))
    clear s hbl
    go_enter Tryz.func29, Tryz.ntmps29
    go_wp2
    rw [some_not_nil]
    go_wp2_with (at_builtin; refine wp_bytes rfl _ _ _ rfl w.heap.size Tryz.underlying27 hi hz0 hz1 hz2 rfl (l := []) rfl O.out rfl S.out (by simp [maxLen]; omega) (by simp; omega) hsz ?_; intro v1 w1 ho1 hb1 _ _)
    go_ret
    exact ⟨v1, rfl, by simpa using ho1, hb.out.trans hb1⟩

theorem Sl.as {k : IntKind} {w : World} {A A' : Option Addr} {n n' c c' : Nat} {l l' : List Int} (h : Sl k w A n c l) (hA : A = A') (hn : n = n') (hc : c = c') (hl : l = l') : Sl k w A' n' c' l' := by
  subst hA; subst hn; subst hc; subst hl; exact h
/-- a piece from the place i on, as the language cuts it -/
theorem Sl.midV {k : IntKind} {w : World} {A : Option Addr} {n c : Nat} {l : List Int} (s : Sl k w A n c l) (i m : Nat) (h : i + m ≤ n) : Sl k w (if c = i then A else A.map (fun x => x.add i)) m (c - i) ((l.drop i).take m) :=
  (Hb.Sl.fromV s i (by omega)).cut0 m (by omega)

set_option maxRecDepth 100000 in
set_option maxHeartbeats 1600000 in
theorem cut_no (A : Option Addr) (n c : Nat) (l : List Int) (w : World) (s : Sl .u8 w A n c l) (hl : IsB l) (env : Env w) (h : cutF l = none) :
    Calls Tryz.prog 36 #[.slice A n c] w fun e w' => e = .returned (.tuple #[.slice none 0 0, .slice none 0 0, .bool false]) ∧ Below w.heap.size w w' := by
  have hlen := s.len
  have hle := s.le
  have hmax : n ≤ 9223372036854775807 := by have := s.max; unfold maxLen at *; omega
  have CON := Lib.hid (parse_any _ _ _ _ _ s hl env)
  have H := Lib.hid h
  clear s hl env h
  rcases prs_ways l with ⟨k, z, e, h1, h2, h3, h4⟩ | ⟨e, h1⟩ | e | e
  · have hk : (n : Int) - (z : Int) < (k : Int) := by
      by_cases hq : k ≤ l.length - z
      · have := H.out; rw [cutF_yes e hq] at this; cases this
      · omega
    have E := Lib.hid e
    have hz : (z : Int) ≤ (n : Int) := by omega
    clear e hlen h4
    go_enter Tryz.func36, Tryz.ntmps36
    go_wp2_with fail
    refine CON.out.mono ?_
    rintro e w' ⟨rfl, hb⟩
    rw [E.out]
    go_wp2
    go_ret3
    exact ⟨rfl, hb⟩
  all_goals
    have E := Lib.hid e
    clear e
    go_enter Tryz.func36, Tryz.ntmps36
    go_wp2_with fail
    refine CON.out.mono ?_
    rintro e w' ⟨rfl, hb⟩
    rw [E.out]
    go_wp2
    go_ret3
    exact ⟨rfl, hb⟩
set_option maxRecDepth 100000 in
set_option maxHeartbeats 1600000 in
theorem cut_yes (A : Option Addr) (n c : Nat) (l : List Int) (w : World) (s : Sl .u8 w A n c l) (hl : IsB l) (env : Env w) {b r : List Int} (h : cutF l = some (b, r)) :
    Calls Tryz.prog 36 #[.slice A n c] w fun e w' => ∃ A1 n1 c1 A2 n2 c2, e = .returned (.tuple #[.slice A1 n1 c1, .slice A2 n2 c2, .bool true]) ∧ (∀ u, Sl .u8 u A n c l → Sl .u8 u A1 n1 c1 b ∧ Sl .u8 u A2 n2 c2 r) ∧ n2 < n ∧ Below w.heap.size w w' := by
  have hlen := s.len
  have hle := s.le
  have hmax : n ≤ 9223372036854775807 := by have := s.max; unfold maxLen at *; omega
  have hcmax : c ≤ 9223372036854775807 := by have := s.max; unfold maxLen at *; omega
  have CON := Lib.hid (parse_any _ _ _ _ _ s hl env)
  obtain ⟨k, z, e, h1, h2, h3, h4, rfl, rfl⟩ := cutF_some h
  have S1 := Lib.hid (fun (u : World) (s : Sl .u8 u A n c l) => Sl.midV s z k (by omega))
  have S2 := Lib.hid (fun (u : World) (s : Sl .u8 u A n c l) => Hb.Sl.fromV s (z + k) (by omega))
  have E := Lib.hid e
  rw [hlen] at h4
  have hz : (z : Int) + (k : Int) ≤ (n : Int) := by omega
  clear e hlen h hl s env
  go_enter Tryz.func36, Tryz.ntmps36
  go_wp2_with fail
  refine CON.out.mono ?_
  rintro e w' ⟨rfl, hb⟩
  rw [E.out]
  have HB := Lib.hid hb
  clear hb
  go_wp2
  have k1 : (0 : Int) ≤ (z : Int) := by omega
  have k2 : (z : Int) + (k : Int) ≤ (c : Int) := by omega
  have hkk : z + k - z = k := by omega
  by_cases q1 : c = z
  · obtain rfl : k = 0 := by omega
    subst q1
    go_quiet (fail)
    go_wp2
    go_ret3
    refine ⟨_, _, _, _, _, _, rfl, fun u hu => ⟨?_, ?_⟩, by omega, Wd.below_drewN HB.out _⟩
    · exact Sl.as (S1.out u hu) (by simp) (by omega) (by omega) rfl
    · exact Sl.as (S2.out u hu) (by simp) (by omega) (by omega) rfl
  · have k3 : ¬ (c : Int) = (z : Int) := by omega
    by_cases q2 : c = z + k
    · subst q2
      have k4 : ((z + k : Nat) : Int) = (z : Int) + (k : Int) := by omega
      go_quiet (fail)
      go_wp2
      go_ret3
      refine ⟨_, _, _, _, _, _, rfl, fun u hu => ⟨?_, ?_⟩, by omega, Wd.below_drewN HB.out _⟩
      · exact Sl.as (S1.out u hu) (if_neg q1) (by omega) (by omega) rfl
      · exact Sl.as (S2.out u hu) (by simp) (by omega) (by omega) rfl
    · have k4 : ¬ (c : Int) = (z : Int) + (k : Int) := by omega
      go_quiet (fail)
      go_wp2
      go_ret3
      refine ⟨_, _, _, _, _, _, rfl, fun u hu => ⟨?_, ?_⟩, by omega, Wd.below_drewN HB.out _⟩
      · exact Sl.as (S1.out u hu) (if_neg q1) (by omega) (by omega) rfl
      · exact Sl.as (S2.out u hu) (if_neg q2) (by omega) (by omega) rfl

set_option maxRecDepth 100000 in
set_option maxHeartbeats 800000 in
theorem broken_any (A : Option Addr) (n c : Nat) (l : List Int) (w : World) (s : Sl .u8 w A n c l) (hl : IsB l) (env : Env w) :
    Calls Tryz.prog 14 #[.slice A n c] w fun e w' => e = .returned (.int .i64 (brk l)) ∧ Below w.heap.size w w' := by
  have CON := Lib.hid (parse_any _ _ _ _ _ s hl env)
  have E := Lib.hid (show brk l = if (prs l).2.2 = 3 then 0 else (prs l).2.2 from rfl)
  clear s hl env
  generalize (prs l).1 = x at *
  generalize (prs l).2.1 = y at *
  generalize (prs l).2.2 = z at *
  by_cases h : z = 3
  · subst h
    have E2 := Lib.hid (E.out.trans (if_pos rfl))
    go_enter Tryz.func14, Tryz.ntmps14
    go_wp2_with fail
    refine CON.out.mono ?_
    rintro e w' ⟨rfl, hb⟩
    go_wp2
    go_ret
    exact ⟨by rw [E2.out]; rfl, hb⟩
  · have d : (z != 3) = true := by simpa using h
    have E2 := Lib.hid (E.out.trans (if_neg h))
    clear h
    go_enter Tryz.func14, Tryz.ntmps14
    go_wp2_with fail
    refine CON.out.mono ?_
    rintro e w' ⟨rfl, hb⟩
    go_wp2
    go_ret
    exact ⟨by rw [E2.out]; rfl, hb⟩
end Fa
end Go.Proofs.YtigiiofiajhnlaaGreatDoor
