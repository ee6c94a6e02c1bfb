/-
  What the document's digit, run, short and sign of layer 9 compute.
-/
import Derived.Test.YtjgkaccmfdjffaaDoorNa
import Derived.Test.YtjgkaccmfdjffaaDoorWe
import Derived.Lib.Hide
namespace Go.Proofs.YtjgkaccmfdjffaaDoor
set_option linter.unusedVariables false
set_option linter.unusedSimpArgs false
open Go.RowKit
namespace Nu
open Wd We

set_option maxHeartbeats 800000 in
theorem rdigit_any (A : Option Addr) (n c : Nat) (l : List Int) (i : Nat) (w : World) (s : Sl .u8 w A n c l) (hb : IsB l) :
    Calls Tryd.prog 31 #[.slice A n c, .int .i64 (i : Int)] w fun e w' => e = .returned (.bool (hdd (l.drop i))) ∧ w = w' := by
  have hlen := s.len
  by_cases hin : i < n
  · obtain ⟨b, off, x, rfl, hx, hc, _⟩ := s.row.look hin
    have hxb := hb.at_ hx
    have e : hdd (l.drop i) = decide (48 ≤ x ∧ x ≤ 57) := by
      rw [List.drop_eq_getElem_cons (show i < l.length by omega), show l[i]'(by omega) = x by rw [List.getElem?_eq_getElem (by omega)] at hx; injection hx]
      rfl
    rw [e]
    have i1 : (i : Int) < (n : Int) := by omega
    clear s hb hx e
    rcases (show x < 48 ∨ (48 ≤ x ∧ x ≤ 57) ∨ (48 ≤ x ∧ 57 < x) by omega) with g | ⟨g1, g2⟩ | ⟨g1, g2⟩
    all_goals
      go_enter Tryd.func31, Tryd.ntmps31
      go_wp2
      go_ret
      exact ⟨by simp <;> omega, rfl⟩
  · have e : hdd (l.drop i) = false := by rw [List.drop_of_length_le (by omega)]; rfl
    rw [e]
    have i1 : ¬ (i : Int) < (n : Int) := by omega
    clear s hb e
    go_enter Tryd.func31, Tryd.ntmps31
    go_wp2
    go_ret
    exact ⟨rfl, rfl⟩
set_option maxHeartbeats 800000 in
theorem rsign_any (A : Option Addr) (n c : Nat) (l : List Int) (i : Nat) (x y : Int) (w : World) (s : Sl .u8 w A n c l) (hb : IsB l) :
    Calls Tryd.prog 30 #[.slice A n c, .int .i64 (i : Int), .int .u8 x, .int .u8 y] w fun e w' => e = .returned (.bool (hd1 x y (l.drop i))) ∧ w = w' := by
  have hlen := s.len
  by_cases hin : i < n
  · obtain ⟨b, off, z, rfl, hx, hc, _⟩ := s.row.look hin
    have e : hd1 x y (l.drop i) = decide (z = x ∨ z = y) := by
      rw [List.drop_eq_getElem_cons (show i < l.length by omega), show l[i]'(by omega) = z by rw [List.getElem?_eq_getElem (by omega)] at hx; injection hx]
      rfl
    rw [e]
    have i1 : (i : Int) < (n : Int) := by omega
    clear s hb hx e
    rcases (show z = x ∨ (¬ z = x ∧ z = y) ∨ (¬ z = x ∧ ¬ z = y) by omega) with g | ⟨g1, g2⟩ | ⟨g1, g2⟩
    · subst g
      go_enter Tryd.func30, Tryd.ntmps30
      go_wp2
      go_ret
      exact ⟨by simp, rfl⟩
    · subst g2
      go_enter Tryd.func30, Tryd.ntmps30
      go_wp2
      go_ret
      exact ⟨by simp, rfl⟩
    · go_enter Tryd.func30, Tryd.ntmps30
      go_wp2
      go_ret
      exact ⟨by simp [g1, g2], rfl⟩
  · have e : hd1 x y (l.drop i) = false := by rw [List.drop_of_length_le (by omega)]; rfl
    rw [e]
    have i1 : ¬ (i : Int) < (n : Int) := by omega
    clear s hb e
    go_enter Tryd.func30, Tryd.ntmps30
    go_wp2
    go_ret
    exact ⟨rfl, rfl⟩
set_option maxHeartbeats 800000 in
theorem rshort_any (A : Option Addr) (n c : Nat) (l : List Int) (i : Nat) (w : World) (hlen : l.length = n) :
    Calls Tryd.prog 32 #[.slice A n c, .int .i64 (i : Int)] w fun e w' => e = .returned (.int .i64 (sho (l.drop i))) ∧ w = w' := by
  by_cases hin : i < n
  · have e : sho (l.drop i) = 90 := by unfold sho; rw [if_neg]; intro g; have := congrArg List.length g; rw [List.length_drop] at this; simp at this; omega
    rw [e]
    have i1 : ¬ (n : Int) ≤ (i : Int) := by omega
    go_enter Tryd.func32, Tryd.ntmps32
    go_wp2
    go_ret
    exact ⟨rfl, rfl⟩
  · have e : sho (l.drop i) = 3 := by unfold sho; rw [if_pos (List.drop_of_length_le (by omega))]
    rw [e]
    have i1 : (n : Int) ≤ (i : Int) := by omega
    go_enter Tryd.func32, Tryd.ntmps32
    go_wp2
    go_ret
    exact ⟨rfl, rfl⟩
set_option maxRecDepth 100000 in
set_option maxHeartbeats 1600000 in
theorem rrun_any (A : Option Addr) (n c : Nat) (l : List Int) (i : Nat) (w : World) (s : Sl .u8 w A n c l) (hb : IsB l) (hi : i ≤ n) (hn : n ≤ 140737488360000) :
    Calls Tryd.prog 33 #[.slice A n c, .int .i64 (i : Int)] w fun e w' => e = .returned (.int .i64 ((i + rn (l.drop i) : Nat) : Int)) ∧ w = w' := by
  have hlen := s.len
  have S := Lib.hid s
  have HB := Lib.hid hb
  clear s hb
  go_enter Tryd.func33, Tryd.ntmps33
  go_wp2
  go_loopw [1] (fun iv wr => ∃ q : Nat, iv = .int .i64 q ∧ i ≤ q ∧ q ≤ n ∧ Hid (q + rn (l.drop q) = i + rn (l.drop i)) ∧ wr = w) (fun iv _ => n - (intOf iv).toNat)
  case atStart => exact ⟨i, rfl, Nat.le_refl _, hi, Lib.hid rfl, rfl⟩
  case round =>
    obtain ⟨q, rfl, hiq, hqn, hr, rfl⟩ := hrel
    have CON := Lib.hid (rdigit_any A n c l q wr S.out HB.out)
    cases hd : hdd (l.drop q) with
    | true =>
      have hst := rn_step hd
      rw [List.drop_drop] at hst
      have hle := rn_le (l.drop q)
      rw [List.length_drop] at hle
      have HR := Lib.hid (show q + 1 + rn (l.drop (q + 1)) = i + rn (l.drop i) by rw [← hr.out, hst]; omega)
      rw [hd] at CON
      have hq1 : q + 1 ≤ n := by omega
      clear hst hle hd
      go_wp2_with fail
      refine CON.out.mono ?_
      rintro e w' ⟨rfl, rfl⟩
      go_wp2
      exact ⟨⟨q + 1, by go_num, by omega, hq1, HR, trivial⟩, by simp [intOf]; omega⟩
    | false =>
      have HR := Lib.hid (show i + rn (l.drop i) = q by rw [← hr.out, rn_zero hd]; rfl)
      rw [hd] at CON
      clear hd
      go_wp2_with fail
      refine CON.out.mono ?_
      rintro e w' ⟨rfl, rfl⟩
      go_wp2
      go_ret
      exact ⟨by rw [HR.out]; rfl, rfl⟩
end Nu
end Go.Proofs.YtjgkaccmfdjffaaDoor
