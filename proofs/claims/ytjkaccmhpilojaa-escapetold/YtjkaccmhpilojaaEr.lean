/-
  What the program's digit and number of layer 8 compute.
-/
import Derived.Test.YtjkaccmhpilojaaEb
import Derived.Test.YtjkaccmhpilojaaWo
namespace Go.Proofs.Ytjkaccmhpilojaa
set_option linter.unusedVariables false
set_option linter.unusedSimpArgs false
open Go.RowKit
namespace Em
open Wd We Utf

set_option maxHeartbeats 800000 in
theorem digit_yes (c : Int) (h0 : 0 ≤ c) (h1 : c ≤ 255) (h : 0 ≤ vx c) (w : World) : Calls Try.prog 63 #[.int .u8 c] w fun e w' => e = .returned (.tuple #[.int .i64 (vx c), .bool true]) ∧ w = w' := by
  by_cases g1 : 48 ≤ c ∧ c ≤ 57
  · have e : vx c = c - 48 := if_pos g1
    obtain ⟨i1, i2⟩ := g1
    rw [e]
    go_enter Try.func63, Try.ntmps63
    go_wp2
    go_ret2
    exact ⟨by first | rfl | (congr 4; done) | (congr 4; go_num), rfl⟩
  by_cases g2 : 97 ≤ c ∧ c ≤ 102
  · have e : vx c = c - 97 + 10 := by unfold vx; rw [if_neg g1, if_pos g2]
    obtain ⟨i1, i2⟩ := g2
    rw [e]
    have i3 : ¬ c ≤ 57 := by omega
    go_enter Try.func63, Try.ntmps63
    go_wp2
    go_ret2
    exact ⟨by first | rfl | (congr 4; done) | (congr 4; go_num), rfl⟩
  by_cases g3 : 65 ≤ c ∧ c ≤ 70
  · have e : vx c = c - 65 + 10 := by unfold vx; rw [if_neg g1, if_neg g2, if_pos g3]
    obtain ⟨i1, i2⟩ := g3
    rw [e]
    have i3 : ¬ c ≤ 57 := by omega
    have i4 : ¬ 97 ≤ c := by omega
    go_enter Try.func63, Try.ntmps63
    go_wp2
    go_ret2
    exact ⟨by first | rfl | (congr 4; done) | (congr 4; go_num), rfl⟩
  have e : vx c = -1 := by unfold vx; rw [if_neg g1, if_neg g2, if_neg g3]
  omega
set_option maxHeartbeats 800000 in
theorem digit_no (c : Int) (h0 : 0 ≤ c) (h1 : c ≤ 255) (h : vx c < 0) (w : World) : Calls Try.prog 63 #[.int .u8 c] w fun e w' => e = .returned (.tuple #[.int .i64 0, .bool false]) ∧ w = w' := by
  have g1 : ¬ (48 ≤ c ∧ c ≤ 57) := fun g => by have e : vx c = c - 48 := if_pos g; omega
  have g2 : ¬ (97 ≤ c ∧ c ≤ 102) := fun g => by have e : vx c = c - 97 + 10 := by { unfold vx; rw [if_neg g1, if_pos g] }; omega
  have g3 : ¬ (65 ≤ c ∧ c ≤ 70) := fun g => by have e : vx c = c - 65 + 10 := by { unfold vx; rw [if_neg g1, if_neg g2, if_pos g] }; omega
  clear h
  rcases (show c < 48 ∨ (57 < c ∧ c < 65) ∨ (70 < c ∧ c < 97) ∨ 102 < c by omega) with g | ⟨g, g'⟩ | ⟨g, g'⟩ | g
  all_goals
    go_enter Try.func63, Try.ntmps63
    go_wp2
    go_ret2
    exact ⟨rfl, rfl⟩

theorem lt16_join {i : Nat} {v x : Int} (h : Lt16 i v) (h0 : 0 ≤ x) (h1 : x ≤ 15) : bits .or .i64 (v * 16) x = v * 16 + x := by
  have := h.le
  exact or_join 4 (by omega) (by omega) h0 (by decide) (by omega) (by omega)

set_option maxRecDepth 100000 in
set_option maxHeartbeats 1600000 in
theorem number_any (A : Option Addr) (n c : Nat) (l : List Int) (w : World) (s : Sl .u8 w A n c l) (hb : IsB l) (hp : 2 ≤ n) (hn : n ≤ 140737488360000) :
    Calls Try.prog 61 #[.slice A n c] w fun e w' => e = .returned (.tuple #[.int .i64 (f4 4 0 (l.drop 2)).1, .int .i64 (f4 4 0 (l.drop 2)).2]) ∧ w = w' := by
  have hlen := s.len
  have S := Lib.hid s
  have HB := Lib.hid hb
  clear s hb
  go_enter Try.func61, Try.ntmps61
  go_wp2
  go_loopw [2, 4] (fun nv iv wr => ∃ (i : Nat) (v : Int), nv = .int .i64 v ∧ iv = .int .i64 ((i : Int) + 2) ∧ i ≤ 4 ∧ i + 2 ≤ n ∧ Hid (Lt16 i v) ∧ Hid (f4 4 0 (l.drop 2) = f4 (4 - i) v (l.drop (2 + i))) ∧ wr = w) (fun _ iv _ => 6 - (intOf iv).toNat)
  case atStart => exact ⟨0, 0, rfl, rfl, by omega, by omega, Lib.hid ⟨by omega, .inl ⟨rfl, rfl⟩⟩, Lib.hid (by simp), rfl⟩
  case round =>
    obtain ⟨i, v, rfl, rfl, hi, hi2, hv, hf, rfl⟩ := hrel
    by_cases hi4 : i < 4
    · have i1 : (i : Int) + 2 < 6 := by omega
      have e4 : 4 - i = (4 - (i + 1)) + 1 := by omega
      by_cases hin : 2 + i < n
      · have i2 : ¬ (i : Int) + 2 = (n : Int) := by omega
        obtain ⟨b, off, x, rfl, hx, hc, _⟩ := S.out.row.look hin
        have hxb := HB.out.at_ hx
        have hfx := hf.out
        rw [e4, List.drop_eq_getElem_cons (show 2 + i < l.length by omega), f4_cons, show l[2 + i]'(by omega) = x by rw [List.getElem?_eq_getElem (by omega)] at hx; injection hx] at hfx
        have hvb := vx_bd x
        have hvl := hv.out.le
        have HF := Lib.hid hfx
        have i3 : (0 : Int) ≤ (i : Int) + 2 := by omega
        have i4 : (i : Int) + 2 < (n : Int) := by omega
        have ii : ((i : Int) + 2).toNat = 2 + i := by omega
        clear hfx hx
        by_cases hx0 : vx x < 0
        · have CON := Lib.hid (digit_no x hxb.1 hxb.2 hx0 wr)
          go_wp2_with fail
          refine CON.out.mono ?_
          rintro e w' ⟨rfl, rfl⟩
          go_wp2_with fail
          go_ret2
          rw [HF.out, if_pos hx0]
          exact ⟨rfl, rfl⟩
        · have CON := Lib.hid (digit_yes x hxb.1 hxb.2 (by omega) wr)
          have hor := lt16_join hv.out (show 0 ≤ vx x by omega) hvb.1
          go_wp2_with fail
          refine CON.out.mono ?_
          rintro e w' ⟨rfl, rfl⟩
          go_wp2_with fail
          have hf2 := HF.out
          rw [if_neg (by omega)] at hf2
          exact ⟨⟨i + 1, v * 16 + vx x, rfl, by go_num, by omega, by omega, Lib.hid (hv.out.next hi4 (by omega) (by omega)), Lib.hid hf2, trivial⟩, by simp [intOf]; omega⟩
      · have i2 : (i : Int) + 2 = (n : Int) := by omega
        go_wp2_with fail
        go_ret2
        rw [hf.out, e4, List.drop_of_length_le (by omega), f4_nil]
        exact ⟨rfl, rfl⟩
    · obtain rfl : i = 4 := by omega
      go_wp2_with fail
      go_ret2
      rw [hf.out]
      exact ⟨rfl, rfl⟩
end Em
end Go.Proofs.Ytjkaccmhpilojaa
