/-
  The walk of FrameBound.
-/
import Derived.Test.YtigiiofiajhnlaaDoorFh
import Derived.Test.YtigiiofiajhnlaaDoorFw
namespace Go.Proofs.YtigiiofiajhnlaaDoor
set_option linter.unusedVariables false
open Go.RowKit Go.ChangeShapes Go.WideShapes
open Wd We Dm Dc Dd Hm Hb He Fm Fa

/-- what a change of a reader leaves below the reader -/
theorem Fa.RdM.keep {w0 w w' : World} {B P : Nat} {s : St} {g : Option Nat} (r : RdM w B P s g) (hb : Below w0.heap.size w0 w) (hB : w0.heap.size ≤ B) (st : Stay (fun k => k = P ∨ g = some k) w w') : Below w0.heap.size w0 w' :=
  hb.trans (st.below hb.size (fun k e => by have := r.lo; rcases e with e | e; omega; have := (r.g_lt k e).1; omega))

set_option maxRecDepth 100000 in
set_option maxHeartbeats 4000000 in
theorem walk_FrameBound (A0 : Option Addr) (n0 c0 : Nat) (ls0 : List (List Int)) (w : World) (s0 : LL w A0 n0 c0 ls0) (b0 : ∀ l ∈ ls0, IsB l) (z0 : ∀ l ∈ ls0, l.length ≤ 140737488351232) (env : Hb.Env w) :
    Calls Tryd.prog 9 #[.slice A0 n0 c0] w fun e w' => e = .returned (.bool true) ∧ Below w.heap.size w w' := by
  have hlen := s0.len
  have hmx : n0 ≤ 9223372036854775807 := by have := s0.le; have := s0.max; unfold maxLen at *; omega
  have S0 := Lib.hid s0
  have B0 := Lib.hid b0
  have Z0 := Lib.hid z0
  have E := Lib.hid env
  clear s0 b0 z0 env
  go_enter Tryd.func9, Tryd.ntmps9
  go_wp2_with fail
  refine (new_any _).mono ?_
  rintro e w1 ⟨rfl, r1, b1⟩
  have R1 := Lib.hid r1
  have H1 := Lib.hid b1
  clear r1 b1
  obtain ⟨B, hBe⟩ : ∃ B, w.heap.size = B := ⟨_, rfl⟩
  rw [hBe] at R1 ⊢
  go_wp2
  go_loopw [4] (fun ix wr => ∃ (k : Nat) (l : List Int) (g : Option Nat), ix = .int .i64 k ∧ k ≤ n0 ∧ k ≤ 40 ∧ Hid (RdM wr B B (some l) g) ∧ Hid (Below w.heap.size w wr)) (fun ix _ => 40 - (intOf ix).toNat)
  case atStart => exact ⟨0, [], none, rfl, Nat.zero_le _, by omega, R1, H1⟩
  case round =>
    obtain ⟨k, l, g, rfl, hk, hk40, hr, hb⟩ := hrel
    by_cases h40 : k = 40
    · subst h40
      have i2 : ¬ ((40 : Nat) : Int) < 40 := by omega
      by_cases hkn : 40 < n0
      · have i1 : ((40 : Nat) : Int) < (n0 : Int) := by omega
        go_wp2_with fail
        refine (awake7 _ (E.out.below hb.out)).mono ?_
        rintro e w6 ⟨rfl, hb6⟩
        go_wp2
        go_ret
        exact ⟨rfl, ext_trans hb.out hb6⟩
      · have i1 : ¬ ((40 : Nat) : Int) < (n0 : Int) := by omega
        go_wp2_with fail
        refine (awake7 _ (E.out.below hb.out)).mono ?_
        rintro e w6 ⟨rfl, hb6⟩
        go_wp2
        go_ret
        exact ⟨rfl, ext_trans hb.out hb6⟩
    · by_cases hkn : k < n0
      · have i1 : (k : Int) < (n0 : Int) := by omega
        have i2 : (k : Int) < 40 := by omega
        obtain ⟨bb, off, X, m, cc, lk, rfl, hlk, hc, sx, hbb⟩ := (S0.out.below hb.out).look hkn
        have hm : m ≤ 140737488351232 := by rw [← sx.len]; exact Z0.out lk (List.mem_of_getElem? hlk)
        have CON := Lib.hid (write_any w wr B B (some l) g _ _ _ _ E.out hb.out (by omega) (Nat.le_of_lt hr.out.lt) hr.out sx (B0.out lk (List.mem_of_getElem? hlk)) (by omega))
        clear sx hlk
        go_wp2_with fail
        refine CON.out.mono ?_
        rintro e w2 ⟨vb, g2, rfl, _, r2, _, st⟩
        have hb2 := Fa.RdM.keep hr.out hb.out (by omega) st
        have H2 := Lib.hid hb2
        clear CON st hb2
        obtain ⟨xs, t, hf⟩ : ∃ xs t, frs (l ++ lk) = (xs, t) := ⟨_, _, rfl⟩
        by_cases hq : brk t = 0
        · have hw := wrt_ok hf hq
          rw [hw] at r2
          rw [hw]
          have hlt : t.length < 66048 := wait_le r2
          have R2 := Lib.hid r2
          have L2 := Lib.hid (left_any w2 _ _ _ _ r2)
          have C2 := Lib.hid (closed_any w2 _ _ _ _ r2)
          have j1 : ¬ ((t.length : Nat) : Int) < 0 := by omega
          have j2 : decide ((66048 : Int) ≤ ((t.length : Nat) : Int)) = false := decide_eq_false (by omega)
          have j3 : decide (66048 ≤ t.length) = false := decide_eq_false (by omega)
          clear r2 hf hq hw hlt
          simp only [lft, Option.isNone] at L2 C2
          go_wp2_with fail
          refine L2.out.mono ?_
          rintro e w' ⟨rfl, rfl⟩
          go_wp2_with fail
          refine L2.out.mono ?_
          rintro e w' ⟨rfl, rfl⟩
          go_wp2_with fail
          refine C2.out.mono ?_
          rintro e w' ⟨rfl, rfl⟩
          go_wp2
          go_roundw
          case rel => exact ⟨k + 1, t, g2, by go_num, by omega, by omega, R2, H2⟩
          case measure => simp [intOf]; omega
        · have hw := wrt_bad hf hq
          rw [hw] at r2
          rw [hw]
          have R2 := Lib.hid r2
          have L2 := Lib.hid (left_any w2 _ _ _ _ r2)
          have C2 := Lib.hid (closed_any w2 _ _ _ _ r2)
          have j1 : (brk t != 0) = true := by simpa using hq
          clear r2 hf hq hw
          generalize brk t = er at *
          simp only [lft, Option.isNone, List.length_nil] at L2 C2
          go_wp2_with fail
          refine C2.out.mono ?_
          rintro e w' ⟨rfl, rfl⟩
          go_wp2_with fail
          refine L2.out.mono ?_
          rintro e w' ⟨rfl, rfl⟩
          go_wp2_with fail
          refine (awake7 _ (E.out.below H2.out)).mono ?_
          rintro e w6 ⟨rfl, hb6⟩
          go_wp2
          go_ret
          exact ⟨rfl, ext_trans H2.out hb6⟩
      · obtain rfl : k = n0 := by omega
        have i1 : ¬ (k : Int) < (k : Int) := by omega
        go_wp2_with fail
        refine (awake7 _ (E.out.below hb.out)).mono ?_
        rintro e w6 ⟨rfl, hb6⟩
        go_wp2
        go_ret
        exact ⟨rfl, ext_trans hb.out hb6⟩
end Go.Proofs.YtigiiofiajhnlaaDoor
