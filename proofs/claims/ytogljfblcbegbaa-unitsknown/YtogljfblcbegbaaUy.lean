/-
  What Of16 (of what is no text), join, Text of package units compute.
-/
import Derived.Test.YtogljfblcbegbaaUx
import Derived.Deep.QuietTactic
import Derived.BigQuiet
namespace Go.Proofs.Ytogljfblcbegbaa
set_option linter.unusedVariables false
open Go.RowKit
namespace Uw
open Utf Wd Wr We Wi

set_option maxHeartbeats 800000 in
theorem of16_bad (A : Option Addr) (n cp : Nat) (l : List Int) (w : World) (s : Sl .u8 w A n cp l) (hb : IsB l) {x y : Nat} {e : Int} (h : chk l = (x, y, e)) (he : e ≠ 0) :
    Calls Try.prog 17 #[.slice A n cp] w fun r w' => r = .returned (.tuple #[.slice none 0 0, .int .i64 e]) ∧ w = w' := by
  have he' : (e != 0) = true := by simpa using he
  have S := Lib.hid s
  have K := Lib.hid h
  have HE := Lib.hid he
  clear s h he
  go_enter Try.func17, Try.ntmps17
  go_wp2_with fail
  refine (of_bad _ _ _ _ _ S.out hb K.out HE.out).mono ?_
  rintro r w' ⟨rfl, rfl⟩
  go_wp2
  go_ret2
  exact ⟨rfl, rfl⟩

def Is16 (l : List Int) : Prop := ∀ x ∈ l, 0 ≤ x ∧ x ≤ 65535
theorem Is16.drop {l : List Int} (h : Is16 l) (m : Nat) : Is16 (l.drop m) := fun x hx => h x (List.mem_of_mem_drop hx)

theorem pair_of {a b : Int} (ha : 0 ≤ a ∧ a ≤ 65535) (hb : 0 ≤ b ∧ b ≤ 65535) (p : (a - a % 1024 == 55296) = true) (q : (b - b % 1024 == 56320) = true) : pairB a b = true := by
  simp at p q; simp only [pairB, decide_eq_true_iff]; omega
theorem no_pair1 {a b : Int} (p : (a - a % 1024 == 55296) = false) : pairB a b = false := by
  simp at p; simp only [pairB, decide_eq_false_iff_not]; omega
theorem no_pair2 {a b : Int} (p : (b - b % 1024 == 56320) = false) : pairB a b = false := by
  simp at p; simp only [pairB, decide_eq_false_iff_not]; omega

set_option maxHeartbeats 800000 in
theorem join_any (b off n cp : Nat) (l : List Int) (w : World) (s : Sl .u16 w (some ⟨b, off, none⟩) n cp l) (hl : Is16 l) (h1 : 1 ≤ n) :
    Calls Try.prog 38 #[.slice (some ⟨b, off, none⟩) n cp] w fun e w' => e = .returned (.int .i64 (jo l)) ∧ ∃ q, w' = w.drewN q := by
  have hlen := s.len
  match l, hl, hlen with
  | [], _, hlen => simp at hlen; omega
  | [a], hl, hlen =>
    obtain rfl : n = 1 := by simpa using hlen.symm
    obtain ⟨b', off', x, e, hx, hc, _⟩ := s.row.look (j := 0) (by omega)
    injection e with e; injection e with e1 e2; subst e1 e2
    simp at hx; subst hx
    rw [Nat.add_zero] at hc
    have ha := hl a (by simp)
    clear s hl hlen
    go_enter Try.func38, Try.ntmps38
    go_wp2
    go_ret
    exact ⟨rfl, 0, rfl⟩
  | a :: b2 :: r, hl, hlen =>
    simp at hlen
    obtain ⟨b', off', x, e, hx, hc, _⟩ := s.row.look (j := 0) (by omega)
    injection e with e; injection e with e1 e2; subst e1 e2
    obtain ⟨b', off', y, e, hy, hd, _⟩ := s.row.look (j := 1) (by omega)
    injection e with e; injection e with e1 e2; subst e1 e2
    simp at hx hy; subst hx hy
    rw [Nat.add_zero] at hc
    have ha := hl a (by simp)
    have hb := hl b2 (by simp)
    have n1 : decide ((n : Int) > 1) = true := by simp; omega
    have i0 : (0 : Int) < (n : Int) := by omega
    have i1 : (1 : Int) < (n : Int) := by omega
    have e1 := andNot16 ha.1 ha.2
    have e2 := andNot16 hb.1 hb.2
    have e3 := and16 ha.1 ha.2
    have e4 := and16 hb.1 hb.2
    have e5 := or_join 10 (a := a % 1024 * 1024) (b := b2 % 1024) (by omega) (by omega) (by omega) (by omega) (by omega) (by omega)
    clear s hl hlen
    cases p : (a - a % 1024 == 55296)
    · rw [jo_one (no_pair1 p)]
      go_enter Try.func38, Try.ntmps38
      go_wp2
      go_ret
      exact ⟨rfl, 0, rfl⟩
    · cases q : (b2 - b2 % 1024 == 56320)
      · rw [jo_one (no_pair2 q)]
        go_enter Try.func38, Try.ntmps38
        go_wp2
        go_ret
        exact ⟨rfl, 0, rfl⟩
      · have hv : 65536 + (a % 1024 * 1024 + b2 % 1024) = 65536 + ((a - 55296) * 1024 + (b2 - 56320)) := by simp at p q; omega
        rw [jo_pair (pair_of ha hb p q), ← hv]
        clear hv
        go_enter Try.func38, Try.ntmps38
        go_wp2
        go_quiet (fail)
        go_wp2
        go_ret
        exact ⟨rfl, _, rfl⟩
end Uw
end Go.Proofs.Ytogljfblcbegbaa
