/-
  What Decode of package runes computes: 'dec' of the bytes from a place on.
-/
import Derived.Test.YtjkaccmhpilojaaUtd
import Derived.Deep.QuietTactic
import Derived.BigQuiet
namespace Go.Proofs.Ytjkaccmhpilojaa
set_option linter.unusedVariables false
open Go.RowKit
namespace Wr
open Utf Wd

/-- what Decode answers of bytes at a place -/
def decAt (l : List Int) (at_ : Int) : Int × Int × Int := if at_ < 0 ∨ (l.length : Int) ≤ at_ then (0, 0, 9) else dec (l.drop at_.toNat)
def T3 (r : Int × Int × Int) : Value := .tuple #[.int .i64 r.1, .int .i64 r.2.1, .int .i64 r.2.2]

theorem first_at (x : Int) (h0 : 0 ≤ x) (h1 : x ≤ 255) (c : Int) (s : Nat) (h : fst x = (c, (s : Int))) (w : World) :
    Calls Try.prog 54 #[.int .u8 x] w fun e w' => e = .returned (.tuple #[.int .i64 c, .int .i64 s]) ∧ w = w' := by
  have := first_any x h0 h1 w
  rw [h] at this
  exact this

theorem cv_step (c0 : Int) {tl : List Int} {k : Nat} {y : Int} (h : tl[k]? = some y) : cv c0 (tl.take (k + 1)) = cv c0 (tl.take k) * 64 + y % 64 := by
  rw [List.take_add_one, h]; exact cv_snoc _ _ _
theorem all_step {tl : List Int} {k : Nat} {y : Int} (h : tl[k]? = some y) (ha : (tl.take k).all cont = true) (hy : cont y = true) : (tl.take (k + 1)).all cont = true := by
  rw [List.take_add_one, h]; simp only [List.all_append, ha, Option.toList_some, List.all_cons, hy, List.all_nil, Bool.and_true]
theorem all_not {tl : List Int} {k : Nat} {y : Int} (h : tl[k]? = some y) (hy : ¬ cont y = true) : tl.all cont = false := by
  rw [List.all_eq_false]; exact ⟨y, List.mem_of_getElem? h, hy⟩

set_option maxHeartbeats 800000 in
theorem decode_in (b off n cp i s : Nat) (x c0 : Int) (tl : List Int) (w : World) (hin : i < n) (hcp : n ≤ cp) (hm : cp ≤ 9223372036854775807) (hs0 : 0 < s) (hs4 : s ≤ 4)
    (hx0 : 0 ≤ x) (hx1 : x ≤ 255) (hc : w.cell? ⟨b, off + i, none⟩ = some (.int .u8 x)) (HF : Hid (fst x = (c0, (s : Int)))) (HB : Hid (IsB tl)) 
    (HT : Hid (∀ j y, tl[j]? = some y → w.cell? ⟨b, off + (i + 1) + j, none⟩ = some (.int .u8 y))) (HN : Hid (tl.length = min (s - 1) (n - i - 1))) (HV : Hid (∀ k, 0 ≤ cv c0 (tl.take k) ∧ cv c0 (tl.take k) < 2097152)) (R : Int × Int × Int)
    (H1 : Hid (tl.all cont = false → R = (0, 0, 10))) (H2 : Hid (tl.all cont = true → bg (cv c0 tl) ((s : Int) - 1 - tl.length) s = false → R = (0, 0, 10)))
    (H3 : Hid (tl.all cont = true → bg (cv c0 tl) ((s : Int) - 1 - tl.length) s = true → tl.length < s - 1 → R = (0, 0, 3)))
    (H4 : Hid (tl.all cont = true → bg (cv c0 tl) ((s : Int) - 1 - tl.length) s = true → tl.length = s - 1 → R = (cv c0 tl, (s : Int), 0))) :
    Calls Try.prog 46 #[.slice (some ⟨b, off, none⟩) n cp, .int .i64 i] w fun e w' => e = .returned (T3 R) ∧ w = w' := by
  have d1 : decide ((i : Int) < 0) = false := by simp
  have d2 : decide ((n : Int) ≤ (i : Int)) = false := by simp; omega
  have d3 : ((s : Int) == 0) = false := by simp; omega
  by_cases hmin : (n : Int) - (i : Int) < (s : Int)
  · by_cases hcap : cp = i + 1
    · go_enter Try.func46, Try.ntmps46
      go_wp2_with (go_at_call 54; refine (first_at _ hx0 hx1 _ _ HF.out _).mono ?_; rintro e w' ⟨rfl, rfl⟩)
      obtain ⟨hl1, hl2, hl3⟩ : tl.length ≤ s - 1 ∧ tl.length ≤ n - i - 1 ∧ (s - 1 ≤ tl.length ∨ n - i - 1 ≤ tl.length) := by have := HN.out; omega
      rw [show i + (n - i) - (i + 1) = tl.length by omega]
      go_loop [4, 5, 6, 9, 43] (fun c v5 v6 _ ix => ∃ k : Nat, k ≤ tl.length ∧ ix = .int .i64 k ∧ c = .int .i64 (cv c0 (tl.take k)) ∧ (tl.take k).all cont = true ∧ v5 = .int .i64 s ∧ v6 = .int .i64 0) (fun _ _ _ _ ix => tl.length - (intOf ix).toNat)
      case atStart => exact ⟨0, Nat.zero_le _, rfl, rfl, rfl, rfl, rfl⟩
      case round =>
        obtain ⟨k, hk, rfl, rfl, hal, rfl, rfl⟩ := hrel
        have HA := Lib.hid hal
        clear hal
        have hv := HV.out k
        by_cases hkl : k < tl.length
        · exact absurd hkl (by omega)
        · obtain rfl : k = tl.length := by omega
          have HA' : Hid (tl.all cont = true) := by have := HA.out; rw [List.take_length] at this; exact this
          rw [List.take_length] at hv
          have hlk : (s : Int) - ((n : Int) - (i : Int)) = (s : Int) - 1 - tl.length := by omega
          have HLK := Lib.hid hlk
          clear hlk
          rw [List.take_length]
          generalize cv c0 tl = C at *
          go_wp2_with fail
          refine (begins_any _ _ _ (by omega) (by omega) (by omega) (by omega) _).mono ?_
          rintro e w' ⟨rfl, rfl⟩
          cases hb : bg C ((s : Int) - ((n : Int) - (i : Int))) s
          · have HBF := Lib.hid hb
            clear hb
            go_wp2
            go_ret3
            exact ⟨by rw [H2.out HA'.out (by rw [← HLK.out]; exact HBF.out)]; rfl, rfl⟩
          · have HBF := Lib.hid hb
            clear hb
            go_wp2
            go_ret3
            exact ⟨by rw [H3.out HA'.out (by rw [← HLK.out]; exact HBF.out) (by omega)]; rfl, rfl⟩
    · go_enter Try.func46, Try.ntmps46
      go_wp2_with (go_at_call 54; refine (first_at _ hx0 hx1 _ _ HF.out _).mono ?_; rintro e w' ⟨rfl, rfl⟩)
      obtain ⟨hl1, hl2, hl3⟩ : tl.length ≤ s - 1 ∧ tl.length ≤ n - i - 1 ∧ (s - 1 ≤ tl.length ∨ n - i - 1 ≤ tl.length) := by have := HN.out; omega
      rw [show i + (n - i) - (i + 1) = tl.length by omega]
      go_loop [4, 5, 6, 9, 43] (fun c v5 v6 _ ix => ∃ k : Nat, k ≤ tl.length ∧ ix = .int .i64 k ∧ c = .int .i64 (cv c0 (tl.take k)) ∧ (tl.take k).all cont = true ∧ v5 = .int .i64 s ∧ v6 = .int .i64 0) (fun _ _ _ _ ix => tl.length - (intOf ix).toNat)
      case atStart => exact ⟨0, Nat.zero_le _, rfl, rfl, rfl, rfl, rfl⟩
      case round =>
        obtain ⟨k, hk, rfl, rfl, hal, rfl, rfl⟩ := hrel
        have HA := Lib.hid hal
        clear hal
        have hv := HV.out k
        by_cases hkl : k < tl.length
        · obtain ⟨y, hy⟩ : ∃ y, tl[k]? = some y := ⟨_, List.getElem?_eq_getElem hkl⟩
          have hyc := HT.out k y hy
          have hyb := IsB.at_ HB.out hy
          have HY := Lib.hid hy
          clear hy
          have hst := cv_step c0 HY.out
          have HS := Lib.hid hst
          clear hst
          generalize cv c0 (tl.take k) = C at *
          have q1 := andNot_63 hyb.1 hyb.2
          by_cases hct : cont y = true
          · have hy2 : 128 ≤ y ∧ y ≤ 191 := by simpa [cont] using hct
            have q2 : (y - y % 64 != 128) = false := by simp; omega
            have q3 : bits .or .i64 (C * 64) (y % 64) = C * 64 + y % 64 := or_join 6 (by omega) (by omega) (by omega) (by omega) (by omega) (by omega)
            have HCT := Lib.hid hct
            clear hct
            go_wp2
            go_round
            case rel => exact ⟨k + 1, by omega, by go_num, by rw [HS.out], all_step HY.out HA.out HCT.out, rfl, rfl⟩
            case measure => simp [intOf]; omega
          · have hy2 : ¬ (128 ≤ y ∧ y ≤ 191) := by simpa [cont] using hct
            have q2 : (y - y % 64 != 128) = true := by simp; omega
            have HCT := Lib.hid hct
            clear hct
            go_wp2
            go_ret3
            exact ⟨by rw [H1.out (all_not HY.out HCT.out)]; rfl, rfl⟩
        · obtain rfl : k = tl.length := by omega
          have HA' : Hid (tl.all cont = true) := by have := HA.out; rw [List.take_length] at this; exact this
          rw [List.take_length] at hv
          have hlk : (s : Int) - ((n : Int) - (i : Int)) = (s : Int) - 1 - tl.length := by omega
          have HLK := Lib.hid hlk
          clear hlk
          rw [List.take_length]
          generalize cv c0 tl = C at *
          go_wp2_with fail
          refine (begins_any _ _ _ (by omega) (by omega) (by omega) (by omega) _).mono ?_
          rintro e w' ⟨rfl, rfl⟩
          cases hb : bg C ((s : Int) - ((n : Int) - (i : Int))) s
          · have HBF := Lib.hid hb
            clear hb
            go_wp2
            go_ret3
            exact ⟨by rw [H2.out HA'.out (by rw [← HLK.out]; exact HBF.out)]; rfl, rfl⟩
          · have HBF := Lib.hid hb
            clear hb
            go_wp2
            go_ret3
            exact ⟨by rw [H3.out HA'.out (by rw [← HLK.out]; exact HBF.out) (by omega)]; rfl, rfl⟩
  · by_cases hcap : cp = i + 1
    · go_enter Try.func46, Try.ntmps46
      go_wp2_with (go_at_call 54; refine (first_at _ hx0 hx1 _ _ HF.out _).mono ?_; rintro e w' ⟨rfl, rfl⟩)
      obtain ⟨hl1, hl2, hl3⟩ : tl.length ≤ s - 1 ∧ tl.length ≤ n - i - 1 ∧ (s - 1 ≤ tl.length ∨ n - i - 1 ≤ tl.length) := by have := HN.out; omega
      rw [show i + s - (i + 1) = tl.length by omega]
      go_loop [4, 5, 6, 9, 43] (fun c v5 v6 _ ix => ∃ k : Nat, k ≤ tl.length ∧ ix = .int .i64 k ∧ c = .int .i64 (cv c0 (tl.take k)) ∧ (tl.take k).all cont = true ∧ v5 = .int .i64 s ∧ v6 = .int .i64 0) (fun _ _ _ _ ix => tl.length - (intOf ix).toNat)
      case atStart => exact ⟨0, Nat.zero_le _, rfl, rfl, rfl, rfl, rfl⟩
      case round =>
        obtain ⟨k, hk, rfl, rfl, hal, rfl, rfl⟩ := hrel
        have HA := Lib.hid hal
        clear hal
        have hv := HV.out k
        by_cases hkl : k < tl.length
        · exact absurd hkl (by omega)
        · obtain rfl : k = tl.length := by omega
          have HA' : Hid (tl.all cont = true) := by have := HA.out; rw [List.take_length] at this; exact this
          rw [List.take_length] at hv
          have hlk : (0 : Int) = (s : Int) - 1 - tl.length := by omega
          have HLK := Lib.hid hlk
          clear hlk
          rw [List.take_length]
          generalize cv c0 tl = C at *
          go_wp2_with fail
          refine (begins_any _ _ _ (by omega) (by omega) (by omega) (by omega) _).mono ?_
          rintro e w' ⟨rfl, rfl⟩
          cases hb : bg C ((0 : Int)) s
          · have HBF := Lib.hid hb
            clear hb
            go_wp2
            go_ret3
            exact ⟨by rw [H2.out HA'.out (by rw [← HLK.out]; exact HBF.out)]; rfl, rfl⟩
          · have HBF := Lib.hid hb
            clear hb
            go_wp2
            go_ret3
            exact ⟨by rw [H4.out HA'.out (by rw [← HLK.out]; exact HBF.out) (by omega)]; rfl, rfl⟩
    · go_enter Try.func46, Try.ntmps46
      go_wp2_with (go_at_call 54; refine (first_at _ hx0 hx1 _ _ HF.out _).mono ?_; rintro e w' ⟨rfl, rfl⟩)
      obtain ⟨hl1, hl2, hl3⟩ : tl.length ≤ s - 1 ∧ tl.length ≤ n - i - 1 ∧ (s - 1 ≤ tl.length ∨ n - i - 1 ≤ tl.length) := by have := HN.out; omega
      rw [show i + s - (i + 1) = tl.length by omega]
      go_loop [4, 5, 6, 9, 43] (fun c v5 v6 _ ix => ∃ k : Nat, k ≤ tl.length ∧ ix = .int .i64 k ∧ c = .int .i64 (cv c0 (tl.take k)) ∧ (tl.take k).all cont = true ∧ v5 = .int .i64 s ∧ v6 = .int .i64 0) (fun _ _ _ _ ix => tl.length - (intOf ix).toNat)
      case atStart => exact ⟨0, Nat.zero_le _, rfl, rfl, rfl, rfl, rfl⟩
      case round =>
        obtain ⟨k, hk, rfl, rfl, hal, rfl, rfl⟩ := hrel
        have HA := Lib.hid hal
        clear hal
        have hv := HV.out k
        by_cases hkl : k < tl.length
        · obtain ⟨y, hy⟩ : ∃ y, tl[k]? = some y := ⟨_, List.getElem?_eq_getElem hkl⟩
          have hyc := HT.out k y hy
          have hyb := IsB.at_ HB.out hy
          have HY := Lib.hid hy
          clear hy
          have hst := cv_step c0 HY.out
          have HS := Lib.hid hst
          clear hst
          generalize cv c0 (tl.take k) = C at *
          have q1 := andNot_63 hyb.1 hyb.2
          by_cases hct : cont y = true
          · have hy2 : 128 ≤ y ∧ y ≤ 191 := by simpa [cont] using hct
            have q2 : (y - y % 64 != 128) = false := by simp; omega
            have q3 : bits .or .i64 (C * 64) (y % 64) = C * 64 + y % 64 := or_join 6 (by omega) (by omega) (by omega) (by omega) (by omega) (by omega)
            have HCT := Lib.hid hct
            clear hct
            go_wp2
            go_round
            case rel => exact ⟨k + 1, by omega, by go_num, by rw [HS.out], all_step HY.out HA.out HCT.out, rfl, rfl⟩
            case measure => simp [intOf]; omega
          · have hy2 : ¬ (128 ≤ y ∧ y ≤ 191) := by simpa [cont] using hct
            have q2 : (y - y % 64 != 128) = true := by simp; omega
            have HCT := Lib.hid hct
            clear hct
            go_wp2
            go_ret3
            exact ⟨by rw [H1.out (all_not HY.out HCT.out)]; rfl, rfl⟩
        · obtain rfl : k = tl.length := by omega
          have HA' : Hid (tl.all cont = true) := by have := HA.out; rw [List.take_length] at this; exact this
          rw [List.take_length] at hv
          have hlk : (0 : Int) = (s : Int) - 1 - tl.length := by omega
          have HLK := Lib.hid hlk
          clear hlk
          rw [List.take_length]
          generalize cv c0 tl = C at *
          go_wp2_with fail
          refine (begins_any _ _ _ (by omega) (by omega) (by omega) (by omega) _).mono ?_
          rintro e w' ⟨rfl, rfl⟩
          cases hb : bg C ((0 : Int)) s
          · have HBF := Lib.hid hb
            clear hb
            go_wp2
            go_ret3
            exact ⟨by rw [H2.out HA'.out (by rw [← HLK.out]; exact HBF.out)]; rfl, rfl⟩
          · have HBF := Lib.hid hb
            clear hb
            go_wp2
            go_ret3
            exact ⟨by rw [H4.out HA'.out (by rw [← HLK.out]; exact HBF.out) (by omega)]; rfl, rfl⟩

set_option maxHeartbeats 800000 in
theorem decode_bad (A : Option Addr) (n cp : Nat) (i : Int) (w : World) (h : i < 0 ∨ (n : Int) ≤ i) :
    Calls Try.prog 46 #[.slice A n cp, .int .i64 i] w fun e w' => e = .returned (T3 (0, 0, 9)) ∧ w = w' := by
  rcases h with h | h
  · have d1 : decide (i < 0) = true := by simpa using h
    go_enter Try.func46, Try.ntmps46
    go_wp2_with fail
    go_ret3
    exact ⟨rfl, rfl⟩
  · have d1 : decide (i < 0) = false := by simp; omega
    have d2 : decide ((n : Int) ≤ i) = true := by simpa using h
    go_enter Try.func46, Try.ntmps46
    go_wp2_with fail
    go_ret3
    exact ⟨rfl, rfl⟩

set_option maxHeartbeats 800000 in
theorem decode_none (b off n cp i : Nat) (x : Int) (w : World) (hin : i < n) (hx0 : 0 ≤ x) (hx1 : x ≤ 255) (hm : cp ≤ 9223372036854775807) (hcp : n ≤ cp)
    (hc : w.cell? ⟨b, off + i, none⟩ = some (.int .u8 x)) (HF : Hid (fst x = (0, ((0 : Nat) : Int)))) :
    Calls Try.prog 46 #[.slice (some ⟨b, off, none⟩) n cp, .int .i64 i] w fun e w' => e = .returned (T3 (0, 0, 10)) ∧ w = w' := by
  have d1 : decide ((i : Int) < 0) = false := by simp
  have d2 : decide ((n : Int) ≤ (i : Int)) = false := by simp; omega
  go_enter Try.func46, Try.ntmps46
  go_wp2_with (go_at_call 54; refine (first_at _ hx0 hx1 _ _ HF.out _).mono ?_; rintro e w' ⟨rfl, rfl⟩)
  go_ret3
  exact ⟨rfl, rfl⟩

/-- Decode, of all bytes and places -/
theorem decode_any (A : Option Addr) (n cp : Nat) (i : Int) (l : List Int) (w : World) (hr : Row .u8 w A n l) (hb : IsB l) (hcp : n ≤ cp) (hm : cp ≤ maxLen) :
    Calls Try.prog 46 #[.slice A n cp, .int .i64 i] w fun e w' => e = .returned (T3 (decAt l i)) ∧ w = w' := by
  by_cases hi : i < 0 ∨ (n : Int) ≤ i
  · have e : decAt l i = (0, 0, 9) := by unfold decAt; rw [if_pos (by rw [hr.1]; exact hi)]
    rw [e]; exact decode_bad A n cp i w hi
  · obtain ⟨j, rfl⟩ := Int.eq_ofNat_of_zero_le (a := i) (by omega)
    have hj : j < n := by omega
    obtain ⟨b, off, x, rfl, hx, hc, _⟩ := hr.look hj
    have hxb := hb.at_ hx
    have hd : l.drop j = x :: l.drop (j + 1) := by
      rw [List.drop_eq_getElem_cons (by rw [hr.1]; exact hj)]
      rw [List.getElem?_eq_getElem (by rw [hr.1]; exact hj)] at hx
      injection hx with hx; rw [hx]
    have e : decAt l (j : Int) = decG x (l.drop (j + 1)) := by
      unfold decAt; rw [if_neg (by rw [hr.1]; exact hi), Int.toNat_natCast, hd, decG_eq _ _ hxb.1 hxb.2]
    rw [e]
    have hm' : cp ≤ 9223372036854775807 := by unfold maxLen at hm; omega
    have hf := fst_bd hxb.1 hxb.2
    obtain ⟨s, hs⟩ := Int.eq_ofNat_of_zero_le hf.2.2.1
    by_cases hs0 : s = 0
    · subst hs0
      have hx0 : fst x = (0, ((0 : Nat) : Int)) := by
        revert hs; unfold fst
        repeat' split
        all_goals simp
      rw [decG_bad1 _ hx0]
      exact decode_none b off n cp j x w hj hxb.1 hxb.2 hm' hcp hc hx0
    · have hfe : fst x = ((fst x).1, (s : Int)) := by rw [← hs]
      have hlen : ((l.drop (j + 1)).take (s - 1)).length = min (s - 1) (n - j - 1) := by
        rw [List.length_take, List.length_drop, hr.1]; omega
      obtain ⟨_, hrow⟩ := hr
      refine decode_in b off n cp j s x (fst x).1 ((l.drop (j + 1)).take (s - 1)) w hj hcp hm' (by omega) (by omega) hxb.1 hxb.2 hc hfe ((hb.drop _).take _) ?_ hlen ?_ _ ?_ ?_ ?_ ?_
      · intro k y hy
        obtain ⟨b', off', e', hcell⟩ := hrow (by rintro rfl; simp at hx)
        injection e' with e'; injection e' with e1 e2; subst e1 e2
        have := hcell (j + 1 + k) y (by
          rw [List.getElem?_take, List.getElem?_drop] at hy
          split at hy
          · exact hy
          · cases hy)
        rw [Nat.add_assoc]; exact this
      · intro k
        refine cv_bd hxb.1 hxb.2 (by omega) _ ?_
        rw [List.length_take, List.length_take, hs]; simp; omega
      · intro h; unfold decG; rw [hs, if_neg (by omega), Int.toNat_natCast, if_pos h]
      · intro h h2; unfold decG; rw [hs, if_neg (by omega), Int.toNat_natCast, if_neg (by rw [h]; simp), if_pos h2]
      · intro h h2 h3; unfold decG; rw [hs, if_neg (by omega), Int.toNat_natCast, if_neg (by rw [h]; simp), if_neg (by rw [h2]; simp), if_pos (by omega)]
      · intro h h2 h3; unfold decG; rw [hs, if_neg (by omega), Int.toNat_natCast, if_neg (by rw [h]; simp), if_neg (by rw [h2]; simp), if_neg (by omega)]
end Wr
end Go.Proofs.Ytjkaccmhpilojaa
