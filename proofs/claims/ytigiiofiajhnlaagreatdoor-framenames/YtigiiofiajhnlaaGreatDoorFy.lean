/-
  What the document's New, First, Left of layer 7 compute.
-/
import Derived.Test.YtigiiofiajhnlaaGreatDoorFb
import Derived.Test.YtigiiofiajhnlaaGreatDoorHi
namespace Go.Proofs.YtigiiofiajhnlaaGreatDoor
set_option linter.unusedVariables false
open Go.RowKit
namespace Fa
open Wd We Dm Dc Dd Hm Hb He Hf Hh Hi Fm

/-- what the document says of bytes that begin no frame -/
def er (l : List Int) : Int := if brk l = 0 then 3 else brk l
theorem er_three {l : List Int} (h : brk l = 0) : er l = 3 := if_pos h
theorem er_bad {l : List Int} (h : brk l ≠ 0) : er l = brk l := if_neg h

set_option maxHeartbeats 800000 in
theorem copy_wide (A : Option Addr) (n c : Nat) (l : List Int) (w : World) (h : Sl .u8 w A n c l) (hn : n ≤ 140737488500000) :
    Calls Tryz.prog 18 #[.slice A n c] w fun e w' => ∃ v, e = .returned v ∧ Wd.Own .u8 5 w' w.heap.size v l ∧ Below w.heap.size w w' := by
  obtain ⟨i0, hi, hz0, hz1, hz2⟩ := info_parts u8_info
  have H := Lib.hid h
  clear h
  go_enter Tryz.func18, Tryz.ntmps18
  go_wp2_with (at_builtin; refine wp_bytes rfl _ _ _ rfl w.heap.size Tryz.underlying27 hi hz0 hz1 hz2 rfl (v := .slice none 0 0) (l := []) rfl Wd.Own.nil rfl H.out (by simp [maxLen]; omega) (by simp; omega) (Nat.le_refl _) ?_; intro v1 w1 ho1 hb1 _ _)
  go_ret
  exact ⟨v1, rfl, by simpa using ho1, hb1⟩

theorem rnew_any (w : World) :
    Calls Tryz.prog 17 #[] w fun e w' => e = .returned (.pointer (some ⟨w.heap.size, 0, none⟩)) ∧ w' = w.alloc (.cells #[.slice none 0 0, .bool false] 47) := by
  go_enter Tryz.func17, Tryz.ntmps17
  go_wp2
  go_ret
  exact ⟨rfl, rfl⟩

set_option maxRecDepth 100000 in
set_option maxHeartbeats 1600000 in
theorem rfirst_no (A : Option Addr) (n c : Nat) (l : List Int) (w : World) (s : Sl .u8 w A n c l) (hl : IsB l) (h : cutF l = none) :
    Calls Tryz.prog 32 #[.slice A n c] w fun e w' => e = .returned (.tuple #[.slice none 0 0, .int .i64 0, .int .i64 (er l)]) ∧ Below w.heap.size w w' := by
  have hlen := s.len
  have hle := s.le
  have hmax : n ≤ 9223372036854775807 := by have := s.max; unfold maxLen at *; omega
  have CON := Lib.hid (rparse6_any _ _ _ _ _ s hl)
  have H := Lib.hid h
  clear s hl h
  rcases prs_ways l with ⟨k, z, e, h1, h2, h3, h4⟩ | ⟨e, h1⟩ | e | e
  · have hk : (n : Int) - (z : Int) < (k : Int) := by
      by_cases hq : k ≤ l.length - z
      · have := H.out; rw [cutF_yes e hq] at this; cases this
      · omega
    have E := Lib.hid e
    have R := Lib.hid (er_three (brk_ok e))
    have hz : (z : Int) ≤ (n : Int) := by omega
    clear e hlen h4
    go_enter Tryz.func32, Tryz.ntmps32
    go_wp2_with fail
    refine CON.out.mono ?_
    rintro e w' ⟨rfl, hb⟩
    rw [E.out]
    go_wp2
    go_ret3
    exact ⟨by rw [R.out]; rfl, hb⟩
  · have E := Lib.hid e
    have R := Lib.hid (er_three (brk_three e))
    clear e
    go_enter Tryz.func32, Tryz.ntmps32
    go_wp2_with fail
    refine CON.out.mono ?_
    rintro e w' ⟨rfl, hb⟩
    rw [E.out]
    go_wp2
    go_ret3
    exact ⟨by rw [R.out]; rfl, hb⟩
  all_goals
    have E := Lib.hid e
    have R := Lib.hid ((er_bad (by rw [brk_bad e (by decide)]; decide)).trans (brk_bad e (by decide)))
    clear e
    go_enter Tryz.func32, Tryz.ntmps32
    go_wp2_with fail
    refine CON.out.mono ?_
    rintro e w' ⟨rfl, hb⟩
    rw [E.out]
    go_wp2
    go_ret3
    exact ⟨by rw [R.out]; rfl, hb⟩

set_option maxRecDepth 100000 in
set_option maxHeartbeats 1600000 in
theorem rfirst_yes (A : Option Addr) (n c : Nat) (l : List Int) (w : World) (s : Sl .u8 w A n c l) (hl : IsB l) {b r : List Int} (h : cutF l = some (b, r)) :
    Calls Tryz.prog 32 #[.slice A n c] w fun e w' => ∃ (v : Value) (k : Nat), e = .returned (.tuple #[v, .int .i64 k, .int .i64 0]) ∧ Wd.Own .u8 5 w' w.heap.size v b ∧ r = l.drop k ∧ 18 ≤ k ∧ k ≤ n ∧ Below w.heap.size w w' := by
  have hlen := s.len
  have hle := s.le
  have hmax : n ≤ 9223372036854775807 := by have := s.max; unfold maxLen at *; omega
  have hcmax : c ≤ 9223372036854775807 := by have := s.max; unfold maxLen at *; omega
  have CON := Lib.hid (rparse6_any _ _ _ _ _ s hl)
  obtain ⟨k, z, e, h1, h2, h3, h4, rfl, rfl⟩ := cutF_some h
  have S1 := Lib.hid (fun (u : World) (s : Sl .u8 u A n c l) => Sl.midV s z k (by omega))
  have S0 := Lib.hid s
  have E := Lib.hid e
  rw [hlen] at h4
  have hz : (z : Int) + (k : Int) ≤ (n : Int) := by omega
  have hz2 : ¬ (n : Int) - (z : Int) < (k : Int) := by omega
  clear e hlen h hl s
  go_enter Tryz.func32, Tryz.ntmps32
  go_wp2_with fail
  refine CON.out.mono ?_
  rintro e w' ⟨rfl, hb⟩
  rw [E.out]
  have SM := Lib.hid (S1.out w' (S0.out.below hb))
  have HB := Lib.hid hb
  have hsz := hb.size
  clear hb
  have k1 : (0 : Int) ≤ (z : Int) := by omega
  have k2 : (z : Int) + (k : Int) ≤ (c : Int) := by omega
  have hkk : z + k - z = k := by omega
  by_cases q1 : c = z
  · obtain rfl : k = 0 := by omega
    subst q1
    have C2 := Lib.hid (copy_any A 0 0 _ w' (Sl.as SM.out (by simp) rfl (by omega) rfl) (by omega))
    go_wp2_with fail
    refine C2.out.mono ?_
    rintro e w2 ⟨v, rfl, ho, hb2⟩
    have O2 := Lib.hid (ho.mono hsz)
    have HB2 := Lib.hid (HB.out.trans (hb2.mono hsz))
    clear ho hb2
    go_wp2
    go_ret3
    exact ⟨v, c + 0, rfl, O2.out, rfl, by omega, by omega, HB2.out⟩
  · have k3 : ¬ (c : Int) = (z : Int) := by omega
    have C2 := Lib.hid (copy_any (A.map (fun x => x.add z)) k (c - z) _ w' (Sl.as SM.out (if_neg q1) rfl rfl rfl) (by omega))
    go_wp2_with fail
    refine C2.out.mono ?_
    rintro e w2 ⟨v, rfl, ho, hb2⟩
    have O2 := Lib.hid (ho.mono hsz)
    have HB2 := Lib.hid (HB.out.trans (hb2.mono hsz))
    clear ho hb2
    go_wp2
    go_ret3
    exact ⟨v, z + k, rfl, O2.out, rfl, by omega, by omega, HB2.out⟩
end Fa
end Go.Proofs.YtigiiofiajhnlaaGreatDoor
