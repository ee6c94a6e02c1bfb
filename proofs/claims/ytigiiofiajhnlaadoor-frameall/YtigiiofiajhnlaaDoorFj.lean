/-
  What the statements' cut and reads (layer 7) compute.
-/
import Derived.Test.YtigiiofiajhnlaaDoorFi
import Derived.Test.YtigiiofiajhnlaaDoorWp
namespace Go.Proofs.YtigiiofiajhnlaaDoor
set_option linter.unusedVariables false
set_option linter.unusedSimpArgs false
open Go.RowKit Go.Shelf
namespace Fa
open Wd We Dm Dc Dd Hm Hb He Fm

/-- a row of the call's own, of slices of bytes that lay in w0 -/
def VL (w0 w : World) (B : Nat) (v : Value) (ls : List (List Int)) : Prop :=
  ∃ vs : List Value, w.ownsRow B 27 1 v ls.length vs ∧ ∀ (i : Nat) (l : List Int), ls[i]? = some l → ∃ X m k, vs[i]? = some (.slice X m k) ∧ Sl .u8 w0 X m k l
theorem VL.nil (w0 w : World) (B : Nat) : VL w0 w B (.slice none 0 0) [] := ⟨[], World.ownsRow_nil _ _ _ _, fun i l h => by simp at h⟩
theorem VL.below {w0 w w' : World} {B : Nat} {v : Value} {ls : List (List Int)} (h : VL w0 w B v ls) (hb : Below w.heap.size w w') : VL w0 w' B v ls := by
  obtain ⟨vs, h1, h2⟩ := h
  exact ⟨vs, row_stay h1 (Stay.of_below (fun _ => False) hb) (fun _ _ c => c), h2⟩
theorem VL.kept {w0 w w' : World} {B : Nat} {v : Value} {ls : List (List Int)} {row : Option Nat} (h : VL w0 w B v ls) (hg : w.grownBy w' row) (hne : ∀ k, row = some k → v.ownBlock ≠ some k) : VL w0 w' B v ls := by
  obtain ⟨vs, h1, h2⟩ := h
  exact ⟨vs, row_stay h1 (Stay.grown (S := fun k => row = some k) hg (fun k e => e)) (fun g hg' c => hne g c hg'), h2⟩
theorem VL.ll {w0 w : World} {B : Nat} {v : Value} {ls : List (List Int)} (h : VL w0 w B v ls) (hb : Below w0.heap.size w0 w) : ∃ A c, v = .slice A ls.length c ∧ LL w A ls.length c ls := by
  obtain ⟨vs, h1, h2⟩ := h
  rcases h1.2 with ⟨rfl, h0⟩ | ⟨g, cap, cur, rfl, hg, hh, hn, hm, hs, ht⟩
  · obtain rfl : ls = [] := List.eq_nil_of_length_eq_zero h0
    exact ⟨none, 0, rfl, LL.nil_⟩
  · refine ⟨_, cap, rfl, ⟨rfl, hn, hm, (fun e => by cases e), fun i l hi => ?_⟩⟩
    obtain ⟨X, m, k, h3, h4⟩ := h2 i l hi
    refine ⟨g, 0, X, m, k, rfl, ?_, h4.below hb⟩
    rw [Nat.zero_add, cell_of_row _ _ _ _ _ _ hh]
    rw [← ht, List.getElem?_take] at h3
    split at h3
    · simpa using h3
    · cases h3
theorem vl_snoc {w0 w' : World} {B : Nat} {v' : Value} {ls : List (List Int)} {vs : List Value} {X : Option Addr} {m k : Nat} {l : List Int} (hlen : vs.length = ls.length)
    (he : ∀ (i : Nat) (l : List Int), ls[i]? = some l → ∃ X m k, vs[i]? = some (.slice X m k) ∧ Sl .u8 w0 X m k l) (hx : Sl .u8 w0 X m k l) (hrow' : w'.ownsRow B 27 1 v' (ls.length + 1) (vs ++ [.slice X m k])) : VL w0 w' B v' (ls ++ [l]) := by
  refine ⟨vs ++ [.slice X m k], by rw [List.length_append]; exact hrow', fun i x hi => ?_⟩
  by_cases h : i < ls.length
  · rw [List.getElem?_append_left h] at hi
    obtain ⟨Y, a, b, h1, h2⟩ := he i x hi
    exact ⟨Y, a, b, by rw [List.getElem?_append_left (by omega)]; exact h1, h2⟩
  · rw [List.getElem?_append_right (by omega)] at hi
    have h0 : i - ls.length = 0 := by
      rcases hz : i - ls.length with _ | z
      · rfl
      · rw [hz] at hi; simp at hi
    rw [h0] at hi
    simp at hi
    subst hi
    exact ⟨X, m, k, by rw [List.getElem?_append_right (by omega), hlen, h0]; rfl, hx⟩

set_option maxRecDepth 100000 in
set_option maxHeartbeats 4000000 in
/-- bytes in pieces -/
theorem pieces_any (A B : Option Addr) (n c m d : Nat) (l zs : List Int) (w : World) (s : Sl .u8 w A n c l) (hl : IsB l) (t : Sl .i64 w B m d zs) (hz : ∀ x ∈ zs, (Lit.int .i64 x).wf = true) (hn : n ≤ 140737488360000) :
    Calls Tryd.prog 27 #[.slice A n c, .slice B m d] w fun e w' => ∃ ps v, e = .returned v ∧ VL w w' w.heap.size v ps ∧ ps.flatten = l ∧ (∀ p ∈ ps, IsB p) ∧ Below w.heap.size w w' := by
  obtain ⟨i0, hi, hz0, hz1, hz2⟩ := info_parts bytes_info
  have hlen := s.len
  have hle := s.le
  have hcm : c ≤ 9223372036854775807 := by have := s.max; unfold maxLen at *; omega
  have hmm : m ≤ 9223372036854775807 := by have := t.le; have := t.max; unfold maxLen at *; omega
  have S := Lib.hid s
  have T := Lib.hid t
  have HL := Lib.hid hl
  have HZ := Lib.hid hz
  clear s t hl hz
  go_enter Tryd.func27, Tryd.ntmps27
  go_wp2
  go_loopw [0, 5, 6] (fun bv ov ix wr => ∃ (k : Nat) (A' : Option Addr) (n' c' : Nat) (r : List Int) (ps : List (List Int)), ix = .int .i64 k ∧ bv = .slice A' n' c' ∧ k ≤ 60 ∧ k ≤ m ∧ n' ≤ n ∧ Hid (Sl .u8 w A' n' c' r) ∧ Hid (IsB r) ∧ ps.length = k ∧ Hid (ps.flatten ++ r = l) ∧ Hid (∀ p ∈ ps, IsB p) ∧ Hid (VL w wr w.heap.size ov ps) ∧ Hid (Below w.heap.size w wr)) (fun _ _ ix _ => 60 - (intOf ix).toNat)
  case atStart => exact ⟨0, A, n, c, l, [], rfl, rfl, by omega, Nat.zero_le _, Nat.le_refl _, S, HL, rfl, Lib.hid rfl, Lib.hid (by simp), Lib.hid (VL.nil _ _ _), Lib.hid (Below.refl _ _)⟩
  case round =>
    obtain ⟨k, A', n', c', r, ps, rfl, rfl, hk60, hkm, hnn, hs, hib, hpl, hfl, hpb, hv, hb⟩ := hrel
    have hsz := hb.out.size
    by_cases hgo : k < m ∧ k < 60 ∧ 0 < n'
    · obtain ⟨g1, g2, g3⟩ := hgo
      have i1 : (k : Int) < (m : Int) := by omega
      have i2 : (k : Int) < 60 := by omega
      have i3 : (0 : Int) < (n' : Int) := by omega
      obtain ⟨bb, off, x, rfl, hx, hcx, hbb⟩ := (T.out.below hb.out).row.look g1
      have hxw := i64_of (HZ.out x (List.mem_of_getElem? hx))
      have hbr := bring_any x ((n' : Int) + 1) (by omega) (by omega) hxw.1 hxw.2
      obtain ⟨q, hq⟩ := Int.eq_ofNat_of_zero_le (Int.emod_nonneg x (b := (n' : Int) + 1) (by omega))
      have hq2 := Int.emod_lt_of_pos x (b := (n' : Int) + 1) (by omega)
      rw [hq] at hbr hq2
      have hq3 : q ≤ n' := by omega
      have HBR := Lib.hid hbr
      have hc' : n' ≤ c' := hs.out.le
      have hcm' : c' ≤ 9223372036854775807 := by have := hs.out.max; unfold maxLen at *; omega
      have S1 := Lib.hid (hs.out.cut0 q hq3)
      have S2 := Lib.hid (Hb.Sl.fromV hs.out q hq3)
      have k1 : (0 : Int) ≤ (q : Int) := by omega
      have k2 : (q : Int) ≤ (c' : Int) := by omega
      have k3 : (q : Int) ≤ (n' : Int) := by omega
      have hrl := hs.out.len
      clear hx hbr hq hq2 hxw
      obtain ⟨vs, hrow, hel⟩ := id hv.out
      rw [hpl] at hrow
      have HEL := Lib.hid hel
      have HROW := Lib.hid hrow
      have hvl : vs.length = k := by have := hrow.1; omega
      clear hel hrow
      go_wp2_with fail
      refine (HBR.out _).mono ?_
      rintro e w' ⟨rfl, rfl⟩
      go_wp2_with (at_builtin; refine wp_own rfl _ _ _ rfl w.heap.size Tryd.underlying22 hi hz0 hz1 hz2 rfl (xs := vs) (n := k) rfl (HROW.out.alloc (.cells #[.slice A' q c'] 27)) (A := some ⟨wr.heap.size, 0, none⟩) (m := 1) (c := 1) (news := [.slice A' q c']) rfl rfl (fun e => by cases e) (fun ad e => by cases e; exact cell_one_new wr _ _) (by simp [Value.oneCell']) (by unfold maxLen; omega) (by omega) (by simp; omega) ?_; intro v2 w2 o2 b2 g2 _; have V2 := Lib.hid (vl_snoc (w0 := w) (ls := ps) (by rw [hpl]; exact hvl) HEL.out S1.out (by rw [hpl]; exact o2)); have H2 := Lib.hid (hb.out.trans (((Below.refl w.heap.size wr).alloc hsz (.cells #[.slice A' q c'] 27)).trans b2)); clear o2 b2 g2)
      have HF := Lib.hid (show (ps ++ [r.take q]).flatten ++ r.drop q = l by rw [List.flatten_append, List.append_assoc]; simp; exact hfl.out)
      have HP := Lib.hid (show ∀ p ∈ ps ++ [r.take q], IsB p from fun p hp => by
        rcases List.mem_append.1 hp with h | h
        · exact hpb.out p h
        · rw [List.mem_singleton.1 h]; exact hib.out.take q)
      have HI := Lib.hid (hib.out.drop q)
      by_cases hcq : c' = q
      · have k4 : (c' : Int) = (q : Int) := by omega
        have S3 := Lib.hid (Sl.as S2.out (if_pos hcq) rfl rfl rfl)
        subst hcq
        clear k4
        go_wp2
        go_roundw
        case rel => exact ⟨k + 1, by omega, A', 0, 0, ⟨rfl, rfl, rfl⟩, by omega, by omega, by omega, r.drop c', Lib.hid (Sl.as S3.out rfl (by omega) (by omega) rfl), HI, ps ++ [r.take c'], by simp [hpl], HF, HP, V2⟩
        case measure => simp [intOf]; omega
      · have k4 : ¬ (c' : Int) = (q : Int) := by omega
        have S3 := Lib.hid (Sl.as S2.out (if_neg hcq) rfl rfl rfl)
        go_wp2
        go_roundw
        case rel => exact ⟨k + 1, by omega, _, _, _, ⟨rfl, rfl, rfl⟩, by omega, by omega, by omega, r.drop q, S3, HI, ps ++ [r.take q], by simp [hpl], HF, HP, V2⟩
        case measure => simp [intOf]; omega
    · have hcase : (¬ (k : Int) < (m : Int)) ∨ ((k : Int) < (m : Int) ∧ ¬ (k : Int) < 60) ∨ ((k : Int) < (m : Int) ∧ (k : Int) < 60 ∧ ¬ (0 : Int) < (n' : Int)) := by omega
      obtain ⟨vs, hrow, hel⟩ := id hv.out
      rw [hpl] at hrow
      have HEL := Lib.hid hel
      have HROW := Lib.hid hrow
      have hvl : vs.length = k := by have := hrow.1; omega
      have HF := Lib.hid (show (ps ++ [r]).flatten = l by rw [List.flatten_append]; simp; exact hfl.out)
      have HP := Lib.hid (show ∀ p ∈ ps ++ [r], IsB p from fun p hp => by
        rcases List.mem_append.1 hp with h | h
        · exact hpb.out p h
        · rw [List.mem_singleton.1 h]; exact hib.out)
      clear hel hrow hgo
      rcases hcase with i1 | ⟨i1, i2⟩ | ⟨i1, i2, i3⟩
      all_goals
        go_wp2_with (at_builtin; refine wp_own rfl _ _ _ rfl w.heap.size Tryd.underlying22 hi hz0 hz1 hz2 rfl (xs := vs) (n := k) rfl (HROW.out.alloc (.cells #[.slice A' n' c'] 27)) (A := some ⟨wr.heap.size, 0, none⟩) (m := 1) (c := 1) (news := [.slice A' n' c']) rfl rfl (fun e => by cases e) (fun ad e => by cases e; exact cell_one_new wr _ _) (by simp [Value.oneCell']) (by unfold maxLen; omega) (by omega) (by simp; omega) ?_; intro v2 w2 o2 b2 g2 _; have V2 := Lib.hid (vl_snoc (w0 := w) (ls := ps) (by rw [hpl]; exact hvl) HEL.out hs.out (by rw [hpl]; exact o2)); have H2 := Lib.hid (hb.out.trans (((Below.refl w.heap.size wr).alloc hsz (.cells #[.slice A' n' c'] 27)).trans b2)); clear o2 b2 g2)
        go_ret
        exact ⟨_, _, rfl, V2.out, HF.out, HP.out, H2.out⟩
end Fa
end Go.Proofs.YtigiiofiajhnlaaDoor
